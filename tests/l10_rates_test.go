package tests

import (
	"math/big"
	"math/rand/v2"
	"regexp"
	"slices"
	"strings"
	"testing"

	"loop.example/g00793/impl"
)

// rate takes a rate from its three words, whether it is a valid one or not.
func rate(s string) impl.Rate {
	f := strings.Split(s, " ")
	return impl.Rate{From: f[0], To: f[1], R: decimal(f[2])}
}

func rates(pivot string, list ...string) impl.Rates {
	t := impl.Rates{Pivot: pivot}
	for _, s := range list {
		t.List = append(t.List, rate(s))
	}
	return t
}

func oppositeRate(r impl.Rate) impl.Rate {
	return impl.Rate{From: r.To, To: r.From, R: cloneDec(r.R)}
}

func sameRate(r impl.Rate, s impl.Rate) bool {
	return r.From == s.From && r.To == s.To && sameDec(r.R, s.R)
}

func sameRates(k impl.Rates, l impl.Rates) bool {
	return k.Pivot == l.Pivot && slices.EqualFunc(k.List, l.List, sameRate)
}

func cloneRate(r impl.Rate) impl.Rate {
	return impl.Rate{From: r.From, To: r.To, R: cloneDec(r.R)}
}

func cloneRates(k impl.Rates) impl.Rates {
	same := impl.Rates{Pivot: k.Pivot}
	for _, r := range k.List {
		same.List = append(same.List, cloneRate(r))
	}
	return same
}

func checkRate(t *testing.T, got impl.Rate, ok bool, want impl.Rate, wantOk bool, call string, args ...any) {
	t.Helper()
	if !sameRate(got, want) || ok != wantOk {
		t.Errorf("%s of %v = %v, %v, not %v, %v", call, args, got, ok, want, wantOk)
	}
}

func checkRates(t *testing.T, got impl.Rates, ok bool, want impl.Rates, wantOk bool, call string, args ...any) {
	t.Helper()
	if !sameRates(got, want) || ok != wantOk {
		t.Errorf("%s of %v = %v, %v, not %v, %v", call, args, got, ok, want, wantOk)
	}
}

// rateNums are positive, of 1 and of 2 limbs; the last one is the greatest that a rate has.
func rateNums() []impl.Signed {
	return []impl.Signed{plus(1), plus(2), plus(8), plus(10), plus(125), plus(half), plus(top), plus(0, 1), plus(1, 1), plus(7, 5), plus(123456789, 987654321), plus(0, top), plus(top-1, top), plus(top, top)}
}

// goodDecs are the rates themselves, at every scale.
func goodDecs() []impl.Dec {
	var scales []int
	for scale := range 31 {
		scales = append(scales, scale)
	}
	return atScales(rateNums(), scales...)
}

// rateRow returns n valid rates of different pairs, for an n of at most 19; each is of another size and scale.
func rateRow(n int) []impl.Rate {
	codes := strings.Fields(curOrder)
	nums := rateNums()
	var row []impl.Rate
	for i := range n {
		row = append(row, impl.Rate{From: codes[i], To: codes[i+1], R: scaled(i, cloneSigned(nums[i%len(nums)]))})
	}
	return row
}

// noRateDecs are valid numbers that are no rates: 0, negative ones, and those of more than 2 limbs.
func noRateDecs() []impl.Dec {
	longer := [][]int{powerOfBase(3), sameLimbs(3, 1), sameLimbs(3, top), {1, 0, 1}, {0, top, 1}, powerOfBase(4), sameLimbs(5, top), powerOfBase(6), sameLimbs(6, top)}
	nums := append(bothSigns(longer), plus(), impl.Signed{Mag: []int{}}, minus(1), minus(8), minus(top), minus(0, 1), minus(top, top))
	return atScales(nums, 0, 1, 2, 9, 18, 27, 30)
}

// badRates are wrong in one thing each, and the last ones in more.
func badRates() []impl.Rate {
	var all []impl.Rate
	for _, d := range slices.Concat(noRateDecs(), badDecs(), fewBadDecs()) {
		all = append(all, impl.Rate{From: "EUR", To: "USD", R: d}, impl.Rate{From: "JPY", To: "EUR", R: d})
	}
	for _, code := range strings.Fields(curOrder) {
		all = append(all, rate(code+" "+code+" 1"), rate(code+" "+code+" 0.5"))
	}
	for _, cur := range unknownCurs() {
		for _, d := range []impl.Dec{decimal("1"), decimal("0.50"), scaled(30, plus(top, top)), {}, decimal("-1"), scaled(-1, plus(1))} {
			all = append(all, impl.Rate{From: cur, To: "EUR", R: d}, impl.Rate{From: "EUR", To: cur, R: d}, impl.Rate{From: cur, To: cur, R: d}, impl.Rate{From: cur, To: "XYZ", R: d})
		}
	}
	return append(all, impl.Rate{From: "EUR", To: "EUR"}, impl.Rate{})
}

// fewBadRates are enough beside other arguments.
func fewBadRates() []impl.Rate {
	all := []impl.Rate{{}, rate("XXX USD 1"), rate("EUR XXX 1"), rate("eur USD 1"), rate("EUR usd 1"), rate("EUR EUR 1"), {From: "", To: "EUR", R: decimal("1")}, {From: "EUR", To: "", R: decimal("1")}}
	for _, d := range append(fewBadDecs(), impl.Dec{}, decimal("0.00"), decimal("-0.8"), scaled(0, plus(powerOfBase(3)...)), scaled(30, plus(sameLimbs(3, top)...)), scaled(27, minus(powerOfBase(3)...))) {
		all = append(all, impl.Rate{From: "EUR", To: "USD", R: d})
	}
	return all
}

// firstMidLast are the places of a list of this length at which something may be wrong.
func firstMidLast(size int) []int {
	return slices.Compact([]int{0, size / 2, size})
}

// badTables are rates with an unknown pivot, with too many elements, with an element that is not valid, and with a pair that stands there twice.
func badTables() []impl.Rates {
	all := []impl.Rates{{}}
	for _, cur := range unknownCurs() {
		all = append(all, impl.Rates{Pivot: cur}, impl.Rates{Pivot: cur, List: []impl.Rate{}}, impl.Rates{Pivot: cur, List: rateRow(3)}, rates(cur, "EUR USD 2", "EUR CHF 0.5"))
	}
	for size := 13; size < 20; size++ {
		all = append(all, impl.Rates{Pivot: "EUR", List: rateRow(size)})
	}
	for _, size := range []int{0, 1, 4, 11} {
		for _, place := range firstMidLast(size) {
			for _, bad := range fewBadRates() {
				all = append(all, impl.Rates{Pivot: "EUR", List: slices.Insert(rateRow(size), place, bad)})
			}
		}
	}
	return append(all, twiceTables()...)
}

// twiceTables have two elements with the same pair, at all distances, with the same number, with another one, and with the same one in another form.
func twiceTables() []impl.Rates {
	var all []impl.Rates
	for _, number := range []string{"0.8", "1", "0.80"} {
		for _, size := range []int{0, 1, 2, 10} {
			for first := 0; first <= size; first++ {
				for second := first + 1; second <= size+1; second++ {
					row := slices.Insert(rateRow(size), first, rate("EUR USD 0.8"))
					all = append(all, impl.Rates{Pivot: "CHF", List: slices.Insert(row, second, rate("EUR USD "+number))})
				}
			}
		}
	}
	return append(all, rates("EUR", "EUR USD 1", "EUR USD 1", "EUR USD 1"), rates("EUR", "EUR USD 1", "USD EUR 1", "EUR USD 2", "USD EUR 2"))
}

func TestRateConstants(t *testing.T) {
	if impl.MaxRates != 12 || impl.HwNone != 0 || impl.HwSame != 1 || impl.HwDirect != 2 || impl.HwInverse != 3 || impl.HwPivot != 4 {
		t.Error("a constant of the chapter has another value")
	}
}

func TestRateOk(t *testing.T) {
	for _, from := range strings.Fields(curOrder) {
		for _, to := range strings.Fields(curOrder) {
			for _, d := range []impl.Dec{decimal("1"), decimal("0.50"), scaled(30, plus(1)), scaled(0, plus(top, top))} {
				if got := impl.RateOk(impl.Rate{From: from, To: to, R: d}); got != (from != to) {
					t.Errorf("RateOk of %s, %s, %v = %v", from, to, d, got)
				}
			}
		}
	}
	for _, d := range goodDecs() {
		if !impl.RateOk(impl.Rate{From: "JPY", To: "CLF", R: d}) {
			t.Errorf("RateOk of %v = false", d)
		}
	}
	for _, r := range slices.Concat(badRates(), fewBadRates()) {
		if impl.RateOk(r) {
			t.Errorf("RateOk(%v) = true", r)
		}
	}
	for limbs := range 60 {
		for _, mag := range [][]int{sameLimbs(limbs, 7), sameLimbs(limbs, top), append(sameLimbs(limbs, 0), 1)} {
			if got := impl.RateOk(impl.Rate{From: "EUR", To: "USD", R: scaled(2, plus(mag...))}); got != (len(mag) == 1 || len(mag) == 2) {
				t.Errorf("RateOk of %d limbs = %v", len(mag), got)
			}
		}
	}
}

// opposites are full of pairs that differ in their order alone.
func opposites() []impl.Rate {
	var all []impl.Rate
	for _, r := range rateRow(6) {
		all = append(all, r, oppositeRate(r))
	}
	return all
}

func TestRatesOk(t *testing.T) {
	for _, pivot := range strings.Fields(curOrder) {
		lists := [][]impl.Rate{nil, {}, make([]impl.Rate, 0, 20), opposites(), slices.Concat(rateRow(6), opposites()[:5])[5:]}
		for size := range 13 {
			lists = append(lists, rateRow(size))
		}
		for _, list := range lists {
			if !impl.RatesOk(impl.Rates{Pivot: pivot, List: list}) {
				t.Errorf("RatesOk of %s, %v = false", pivot, list)
			}
		}
	}
	for _, k := range []impl.Rates{rates("EUR", "EUR USD 1", "USD EUR 1"), rates("EUR", "EUR USD 1", "EUR CHF 1", "USD CHF 1"), rates("EUR", "EUR USD 1", "CHF USD 1", "CHF EUR 1"), rates("JPY", "EUR USD 1", "CHF GBP 0.01", "USD EUR 0.5", "GBP CHF 3")} {
		if !impl.RatesOk(k) {
			t.Errorf("RatesOk(%v) = false", k)
		}
	}
	for _, k := range badTables() {
		if impl.RatesOk(k) {
			t.Errorf("RatesOk(%v) = true", k)
		}
	}
	for size := 13; size <= 60; size++ {
		if long := slices.Repeat(rateRow(12), 5)[:size]; impl.RatesOk(impl.Rates{Pivot: "EUR", List: long}) {
			t.Errorf("RatesOk of %d rates = true", size)
		}
	}
}

// Every way in which an element is not valid, at every kind of place; without it the list is valid.
func TestRatesOkAsksEveryElement(t *testing.T) {
	for _, bad := range badRates() {
		for _, size := range []int{0, 2, 11} {
			for _, place := range firstMidLast(size) {
				if impl.RatesOk(impl.Rates{Pivot: "EUR", List: slices.Insert(rateRow(size), place, bad)}) {
					t.Errorf("RatesOk with %v at place %d of %d = true", bad, place, size)
				}
			}
		}
	}
}

// checkPut also asks that the rate is found after it was stored, and that nothing else changes in the order or in the numbers.
func checkPut(t *testing.T, k impl.Rates, r impl.Rate, want impl.Rates, wantOk bool) {
	t.Helper()
	got, ok := impl.RatePut(k, r)
	checkRates(t, got, ok, want, wantOk, "RatePut", k, r)
	if !ok || !wantOk {
		return
	}
	checkFound(t, got, r.From, r.To, impl.HwDirect, bigDec(r.R))
	if !impl.RatesOk(got) || len(got.List) > len(k.List)+1 {
		t.Errorf("RatePut of %v, %v = %v, which is not valid", k, r, got)
	}
	for i, old := range k.List {
		if old.From == r.From && old.To == r.To {
			continue
		}
		if !sameRate(got.List[i], old) {
			t.Errorf("RatePut of %v, %v: rate %d became %v", k, r, i, got.List[i])
		}
		checkFound(t, got, old.From, old.To, impl.HwDirect, bigDec(old.R))
	}
}

func TestRatePutReplaces(t *testing.T) {
	for size := 1; size <= 12; size++ {
		for place := range size {
			for _, d := range []impl.Dec{decimal("3"), decimal("0.80"), scaled(30, plus(1)), scaled(0, plus(top, top)), rateRow(size)[place].R} {
				k := impl.Rates{Pivot: "SEK", List: rateRow(size)}
				r := k.List[place]
				r.R = d
				want := cloneRates(k)
				want.List[place] = r
				checkPut(t, k, r, want, true)
			}
		}
	}
	k := rates("EUR", "EUR USD 1", "USD EUR 2", "EUR CHF 3")
	checkPut(t, k, rate("USD EUR 0.5"), rates("EUR", "EUR USD 1", "USD EUR 0.5", "EUR CHF 3"), true)
	checkPut(t, k, rate("EUR USD 0.5"), rates("EUR", "EUR USD 0.5", "USD EUR 2", "EUR CHF 3"), true)
	checkPut(t, k, rate("EUR CHF 3.0"), rates("EUR", "EUR USD 1", "USD EUR 2", "EUR CHF 3.0"), true)
}

// An opposite rate is another one: it is appended. Into a full list goes no rate but one that stands there already.
func TestRatePutAppends(t *testing.T) {
	for _, empty := range [][]impl.Rate{nil, {}, make([]impl.Rate, 0, 5)} {
		for _, d := range goodDecs() {
			r := impl.Rate{From: "CHF", To: "JPY", R: d}
			checkPut(t, impl.Rates{Pivot: "KWD", List: empty}, r, impl.Rates{Pivot: "KWD", List: []impl.Rate{r}}, true)
		}
	}
	for size := range 13 {
		for _, r := range []impl.Rate{rate("USD AUD 0.75"), rate("CHF AUD 2"), rate("AUD USD 5"), oppositeRate(rateRow(1)[0])} {
			k := impl.Rates{Pivot: "EUR", List: rateRow(size)}
			want := impl.Rates{Pivot: "EUR", List: append(rateRow(size), r)}
			if size == 12 {
				want = impl.Rates{}
			}
			checkPut(t, k, r, want, size < 12)
		}
	}
	checkPut(t, rates("EUR", "EUR USD 2"), rate("USD EUR 2"), rates("EUR", "EUR USD 2", "USD EUR 2"), true)
}

// One rate after the other, until the list is full; then only the rates in it can be stored again.
func TestRatePutUntilFull(t *testing.T) {
	k := impl.Rates{Pivot: "EUR"}
	all := rateRow(19)
	for i, r := range all {
		next, ok := impl.RatePut(k, r)
		if ok != (i < 12) {
			t.Fatalf("RatePut number %d: %v", i, ok)
		}
		if ok {
			k = next
		}
	}
	if !sameRates(k, impl.Rates{Pivot: "EUR", List: all[:12]}) {
		t.Errorf("after 19 rates were put: %v", k)
	}
	for i := range all[:12] {
		next, ok := impl.RatePut(k, impl.Rate{From: all[i].From, To: all[i].To, R: decimal("7")})
		if !ok || len(next.List) != 12 || !sameDec(next.List[i].R, decimal("7")) {
			t.Errorf("RatePut into the full list, place %d: %v, %v", i, next, ok)
		}
	}
}

func TestRatePutInvalid(t *testing.T) {
	goods := []impl.Rate{rate("EUR USD 0.8"), rate("GBP PLN 2"), rate("AUD BHD 1"), rate("USD EUR 3.00")}
	for _, k := range badTables() {
		for _, r := range goods {
			checkPut(t, k, r, impl.Rates{}, false)
		}
		if len(k.List) > 0 {
			checkPut(t, k, k.List[0], impl.Rates{}, false)
		}
	}
	for _, bad := range badRates() {
		for _, k := range []impl.Rates{{Pivot: "EUR"}, rates("EUR", "EUR USD 2"), {Pivot: "EUR", List: rateRow(12)}} {
			checkPut(t, k, bad, impl.Rates{}, false)
		}
	}
	for _, bad := range fewBadRates() {
		checkPut(t, impl.Rates{}, bad, impl.Rates{}, false)
		checkPut(t, rates("XXX", "EUR USD 1"), bad, impl.Rates{}, false)
	}
	// A valid rate in the place of the invalid one would make the list valid, but it was not valid before.
	for _, d := range append(noRateDecs(), fewBadDecs()...) {
		k := rates("EUR", "EUR CHF 1", "EUR USD 1", "JPY EUR 2")
		k.List[1].R = d
		checkPut(t, k, rate("EUR USD 2"), impl.Rates{}, false)
	}
}

// checkFound holds RateHow, RateOf and RatePath against one answer. Where there is no rate, q is ignored.
func checkFound(t *testing.T, k impl.Rates, a string, b string, how int, q *big.Rat) {
	t.Helper()
	paths := map[int][]string{impl.HwNone: nil, impl.HwSame: {a}, impl.HwDirect: {a, b}, impl.HwInverse: {a, b}, impl.HwPivot: {a, k.Pivot, b}}
	if got := impl.RateHow(k, a, b); got != how {
		t.Errorf("RateHow of %v, %q, %q = %d, not %d", k, a, b, got, how)
	}
	if got := impl.RatePath(k, a, b); !slices.Equal(got, paths[how]) {
		t.Errorf("RatePath of %v, %q, %q = %q, not %q", k, a, b, got, paths[how])
	}
	want, wantOk := impl.Rat{}, how != impl.HwNone
	if wantOk {
		want, _ = limitedRat(q)
	}
	got, ok := impl.RateOf(k, a, b)
	if !sameRat(got, want) || ok != wantOk || ok != impl.RatOk(got) {
		t.Errorf("RateOf of %v, %q, %q = %v, %v, not %v, %v", k, a, b, got, ok, want, wantOk)
	}
}

func checkNotFound(t *testing.T, k impl.Rates, a string, b string) {
	t.Helper()
	checkFound(t, k, a, b, impl.HwNone, nil)
}

type foundCase struct {
	list string
	pair string
	how  int
	want *big.Rat
}

// foundCases are held against rates whose pivot is EUR.
func foundCases() []foundCase {
	none, same, direct, inverse, pivot := impl.HwNone, impl.HwSame, impl.HwDirect, impl.HwInverse, impl.HwPivot
	return []foundCase{
		{"", "EUR EUR", same, big.NewRat(1, 1)}, {"", "USD USD", same, big.NewRat(1, 1)}, {"", "USD EUR", none, nil}, {"", "EUR USD", none, nil}, {"", "USD CHF", none, nil},
		{"", "XXX XXX", none, nil}, {"", "XXX EUR", none, nil}, {"", "EUR XXX", none, nil}, {"", "eur eur", none, nil}, {"", "XXX YYY", none, nil},
		{"USD EUR 0.5", "USD EUR", direct, big.NewRat(1, 2)}, {"USD EUR 0.5", "EUR USD", inverse, big.NewRat(2, 1)}, {"USD EUR 0.5", "USD USD", same, big.NewRat(1, 1)}, {"USD EUR 0.5", "EUR EUR", same, big.NewRat(1, 1)}, {"USD EUR 0.5", "CHF CHF", same, big.NewRat(1, 1)},
		{"USD EUR 0.5", "XXX XXX", none, nil}, {"USD EUR 0.5", "USD XXX", none, nil}, {"USD EUR 0.5", "XXX EUR", none, nil}, {"USD EUR 0.5", "XXX YYY", none, nil}, {"USD EUR 0.5", "usd eur", none, nil}, {"USD EUR 0.5", "USD CHF", none, nil},
		{"CHF JPY 160.00", "CHF JPY", direct, big.NewRat(160, 1)}, {"CHF JPY 160.00", "JPY CHF", inverse, big.NewRat(1, 160)}, {"CHF JPY 160.00", "CHF EUR", none, nil}, {"CHF JPY 160.00", "EUR JPY", none, nil},
		// Both directions are stored: the stored one goes first.
		{"EUR CHF 0.8,CHF EUR 1.5", "EUR CHF", direct, big.NewRat(4, 5)}, {"EUR CHF 0.8,CHF EUR 1.5", "CHF EUR", direct, big.NewRat(3, 2)}, {"CHF EUR 1.5,EUR CHF 0.8", "EUR CHF", direct, big.NewRat(4, 5)}, {"CHF EUR 1.5,EUR CHF 0.8", "CHF EUR", direct, big.NewRat(3, 2)},
		{"USD CHF 2,CHF USD 3", "USD CHF", direct, big.NewRat(2, 1)}, {"USD CHF 2,CHF USD 3", "CHF USD", direct, big.NewRat(3, 1)}, {"USD CHF 2,CHF USD 3", "USD EUR", none, nil},
		// A direct or an opposite rate beside a way through the pivot.
		{"USD EUR 0.5,EUR CHF 0.8,USD CHF 3", "USD CHF", direct, big.NewRat(3, 1)}, {"USD EUR 0.5,EUR CHF 0.8,USD CHF 3", "CHF USD", inverse, big.NewRat(1, 3)}, {"USD CHF 3,USD EUR 0.5,EUR CHF 0.8", "USD CHF", direct, big.NewRat(3, 1)}, {"USD CHF 3,CHF EUR 7,EUR USD 9", "CHF USD", inverse, big.NewRat(1, 3)},
		{"USD EUR 0.5,CHF USD 4,EUR CHF 0.8,USD CHF 3", "CHF USD", direct, big.NewRat(4, 1)}, {"USD EUR 0.5,CHF USD 4,EUR CHF 0.8,USD CHF 3", "USD CHF", direct, big.NewRat(3, 1)},
		// Each half is stored, or stored the other way round.
		{"USD EUR 0.5,EUR CHF 0.8", "USD CHF", pivot, big.NewRat(2, 5)}, {"USD EUR 0.5,EUR CHF 0.8", "CHF USD", pivot, big.NewRat(5, 2)}, {"EUR CHF 0.8,USD EUR 0.5", "USD CHF", pivot, big.NewRat(2, 5)},
		{"USD EUR 0.5,CHF EUR 0.8", "USD CHF", pivot, big.NewRat(5, 8)}, {"USD EUR 0.5,CHF EUR 0.8", "CHF USD", pivot, big.NewRat(8, 5)}, {"EUR USD 0.5,EUR CHF 0.8", "USD CHF", pivot, big.NewRat(8, 5)}, {"EUR USD 0.5,EUR CHF 0.8", "CHF USD", pivot, big.NewRat(5, 8)},
		{"EUR USD 0.5,CHF EUR 0.8", "USD CHF", pivot, big.NewRat(5, 2)}, {"EUR USD 0.5,CHF EUR 0.8", "CHF USD", pivot, big.NewRat(2, 5)},
		// Both halves are stored in both directions, with numbers that are not each other's reciprocals.
		{"USD EUR 2,EUR USD 3,EUR CHF 5,CHF EUR 7", "USD CHF", pivot, big.NewRat(10, 1)}, {"USD EUR 2,EUR USD 3,EUR CHF 5,CHF EUR 7", "CHF USD", pivot, big.NewRat(21, 1)}, {"EUR USD 3,USD EUR 2,CHF EUR 7,EUR CHF 5", "USD CHF", pivot, big.NewRat(10, 1)},
		// One half is missing, or both are.
		{"USD EUR 0.5,CHF JPY 2", "USD CHF", none, nil}, {"USD EUR 0.5,CHF JPY 2", "CHF USD", none, nil}, {"EUR USD 0.5,CHF JPY 2", "USD JPY", none, nil}, {"USD GBP 2,CHF JPY 2", "USD CHF", none, nil}, {"EUR CHF 2,JPY GBP 3", "GBP CHF", none, nil},
		// The pivot itself is no way to another currency, and another currency is no pivot.
		{"EUR USD 2,USD CHF 3", "EUR CHF", none, nil}, {"EUR USD 2,USD CHF 3", "CHF EUR", none, nil}, {"EUR USD 2,CHF USD 3", "EUR CHF", none, nil}, {"EUR USD 2,USD CHF 3", "EUR EUR", same, big.NewRat(1, 1)}, {"EUR USD 2,USD CHF 3", "USD EUR", inverse, big.NewRat(1, 2)},
		{"USD GBP 2,GBP CHF 3", "USD CHF", none, nil}, {"USD GBP 2,GBP EUR 3,EUR CHF 5", "USD CHF", none, nil}, {"USD GBP 2,GBP EUR 3,EUR CHF 5", "GBP CHF", pivot, big.NewRat(15, 1)}, {"USD GBP 2,GBP EUR 3,EUR CHF 5", "USD EUR", none, nil},
		{"USD EUR 0.5,EUR CHF 0.8", "USD USD", same, big.NewRat(1, 1)}, {"USD EUR 0.5,EUR CHF 0.8", "USD XXX", none, nil}, {"USD EUR 0.5,EUR CHF 0.8", "XXX CHF", none, nil}, {"USD EUR 0.5,EUR CHF 0.8", "JPY JPY", same, big.NewRat(1, 1)},
	}
}

func TestRateIsFound(t *testing.T) {
	for _, c := range foundCases() {
		k := impl.Rates{Pivot: "EUR"}
		if c.list != "" {
			k = rates("EUR", strings.Split(c.list, ",")...)
		}
		a, b, _ := strings.Cut(c.pair, " ")
		checkFound(t, k, a, b, c.how, c.want)
	}
	k := rates("EUR", "USD GBP 2", "GBP CHF 3", "CHF EUR 5")
	for pivot, want := range map[string]int{"EUR": impl.HwNone, "USD": impl.HwNone, "GBP": impl.HwPivot, "CHF": impl.HwNone, "JPY": impl.HwNone} {
		k.Pivot = pivot
		checkFound(t, k, "USD", "CHF", want, big.NewRat(6, 1))
		checkFound(t, k, "CHF", "USD", want, big.NewRat(1, 6))
	}
}

func TestRateOfNothing(t *testing.T) {
	for _, k := range badTables() {
		for _, a := range []string{"EUR", "USD", "XXX"} {
			for _, b := range []string{"EUR", "USD", "CHF", "XXX"} {
				checkNotFound(t, k, a, b)
			}
		}
	}
	for _, cur := range unknownCurs() {
		for _, k := range []impl.Rates{{Pivot: "EUR"}, rates("EUR", "EUR USD 1", "USD CHF 2"), rates("USD", opposedTexts()...), {Pivot: cur}, {Pivot: cur, List: rateRow(2)}} {
			for _, known := range []string{"EUR", "USD", "CHF", "JPY"} {
				checkNotFound(t, k, cur, known)
				checkNotFound(t, k, known, cur)
			}
			checkNotFound(t, k, cur, cur)
			checkNotFound(t, k, cur, "XXX")
			checkNotFound(t, k, "XXX", cur)
		}
	}
}

func opposedTexts() []string {
	return []string{"EUR USD 2", "USD EUR 3", "USD CHF 0.5", "CHF USD 0.1", "JPY USD 7"}
}

// howFound reads the document's sentences about RateHow and RateOf, for valid rates: the rates are kept by their two codes.
func howFound(k impl.Rates, a string, b string) (int, *big.Rat) {
	stored := map[string]*big.Rat{}
	for _, r := range k.List {
		stored[r.From+r.To] = bigDec(r.R)
	}
	half := func(a string, b string) (int, *big.Rat) {
		if q := stored[a+b]; q != nil {
			return impl.HwDirect, q
		}
		if q := stored[b+a]; q != nil {
			return impl.HwInverse, new(big.Rat).Inv(q)
		}
		return impl.HwNone, nil
	}
	if knownPlaces(a) < 0 || knownPlaces(b) < 0 {
		return impl.HwNone, nil
	}
	if a == b {
		return impl.HwSame, big.NewRat(1, 1)
	}
	if how, q := half(a, b); how != impl.HwNone {
		return how, q
	}
	how1, first := half(a, k.Pivot)
	how2, second := half(k.Pivot, b)
	if a == k.Pivot || b == k.Pivot || how1 == impl.HwNone || how2 == impl.HwNone {
		return impl.HwNone, nil
	}
	return impl.HwPivot, new(big.Rat).Mul(first, second)
}

// randomRates are at most 12 rates of a few currencies, so that all answers of RateHow are frequent.
func randomRates(r *rand.Rand) impl.Rates {
	codes := strings.Fields("EUR USD CHF JPY KWD")
	decs := goodDecs()
	k := impl.Rates{Pivot: codes[r.IntN(3)]}
	size := r.IntN(13)
	for _, place := range r.Perm(25)[:size] {
		if from, to := codes[place/5], codes[place%5]; from != to {
			k.List = append(k.List, impl.Rate{From: from, To: to, R: decs[r.IntN(len(decs))]})
		}
	}
	return k
}

// eachRandomPair tries the pairs of known and unknown currencies with random rates. The answers of RateHow, which try returns, all have to be frequent.
func eachRandomPair(t *testing.T, seed uint64, try func(k impl.Rates, a string, b string) int) {
	t.Helper()
	r := rand.New(rand.NewPCG(seed, 12))
	seen := map[int]int{}
	for range 400 {
		k := randomRates(r)
		for _, a := range strings.Fields("EUR USD CHF JPY KWD GBP XXX") {
			for _, b := range strings.Fields("EUR USD CHF JPY KWD GBP XXX") {
				seen[try(k, a, b)]++
			}
		}
	}
	for how := range 5 {
		if seen[how] < 300 {
			t.Errorf("answer %d was wanted only %d times", how, seen[how])
		}
	}
}

func TestRateIsFoundLikeBig(t *testing.T) {
	eachRandomPair(t, 10, func(k impl.Rates, a string, b string) int {
		how, q := howFound(k, a, b)
		checkFound(t, k, a, b, how, q)
		return how
	})
}

// extremeDecs are the smallest and the greatest rates, and those whose parts stay large in lowest terms.
func extremeDecs() []impl.Dec {
	return atScales([]impl.Signed{plus(1), plus(2), plus(3), plus(0, 1), plus(7, 1), plus(top, top), plus(top-1, top), plus(1, half), plus(123456789, 987654321)}, 0, 1, 9, 17, 18, 29, 30)
}

// Reciprocals and products of rates of 2 limbs and at great scales; no product of two rates is too large.
func TestRateOfExtremes(t *testing.T) {
	all := extremeDecs()
	for _, d := range all {
		k := impl.Rates{Pivot: "EUR", List: []impl.Rate{{From: "USD", To: "EUR", R: d}}}
		checkFound(t, k, "USD", "EUR", impl.HwDirect, bigDec(d))
		checkFound(t, k, "EUR", "USD", impl.HwInverse, new(big.Rat).Inv(bigDec(d)))
		for _, e := range all {
			first, second := bigDec(d), bigDec(e)
			there, back := new(big.Rat).Inv(first), new(big.Rat).Inv(second)
			k = impl.Rates{Pivot: "EUR", List: []impl.Rate{{From: "USD", To: "EUR", R: d}, {From: "EUR", To: "JPY", R: e}}}
			checkFound(t, k, "USD", "JPY", impl.HwPivot, new(big.Rat).Mul(first, second))
			checkFound(t, k, "JPY", "USD", impl.HwPivot, new(big.Rat).Mul(there, back))
			k.List[1] = impl.Rate{From: "JPY", To: "EUR", R: e}
			checkFound(t, k, "USD", "JPY", impl.HwPivot, new(big.Rat).Mul(first, back))
			checkFound(t, k, "JPY", "USD", impl.HwPivot, new(big.Rat).Mul(there, second))
		}
	}
}

// A negative scale, or one beyond MaxScale, makes no rate, so all of the rates are not valid and none is found, not even from a currency to itself.
func TestRateOfBadScales(t *testing.T) {
	for _, scale := range badScales() {
		for _, num := range []impl.Signed{plus(1), plus(top, top)} {
			bad := scaled(scale, num)
			for _, k := range []impl.Rates{
				{Pivot: "EUR", List: []impl.Rate{{From: "USD", To: "EUR", R: bad}}}, {Pivot: "EUR", List: []impl.Rate{{From: "USD", To: "EUR", R: bad}, rate("EUR JPY 2")}},
				{Pivot: "EUR", List: []impl.Rate{rate("USD EUR 2"), {From: "JPY", To: "EUR", R: bad}}}, {Pivot: "EUR", List: []impl.Rate{rate("USD EUR 2"), rate("EUR JPY 3"), {From: "CHF", To: "GBP", R: bad}}},
			} {
				for _, pair := range []string{"USD EUR", "EUR USD", "USD JPY", "JPY USD", "USD USD", "EUR EUR"} {
					a, b, _ := strings.Cut(pair, " ")
					checkNotFound(t, k, a, b)
				}
			}
		}
	}
}

// P4: the rate back is the reciprocal wherever no pair is stored in both directions, and a way through the pivot is the product of its two halves.
func TestRateOfLaws(t *testing.T) {
	r := rand.New(rand.NewPCG(10, 13))
	for range 300 {
		k := randomRates(r)
		for _, a := range strings.Fields("EUR USD CHF JPY KWD") {
			for _, b := range strings.Fields("EUR USD CHF JPY KWD") {
				checkRateLaws(t, k, a, b)
			}
		}
	}
}

func checkRateLaws(t *testing.T, k impl.Rates, a string, b string) {
	t.Helper()
	there, ok := impl.RateOf(k, a, b)
	back, backOk := impl.RateOf(k, b, a)
	if ok != backOk {
		t.Errorf("RateOf of %v: %s to %s %v, and back %v", k, a, b, ok, backOk)
	}
	if product, _ := impl.RatMul(there, back); impl.RateHow(k, a, b) == impl.HwInverse && !sameRat(product, fraction(plus(1), 1)) {
		t.Errorf("RateOf of %v: %s to %s times the rate back is %v", k, a, b, product)
	}
	if impl.RateHow(k, a, b) == impl.HwPivot {
		first, _ := impl.RateOf(k, a, k.Pivot)
		second, _ := impl.RateOf(k, k.Pivot, b)
		product, _ := impl.RatMul(first, second)
		checkRat(t, there, ok, product, true, "RateOf, "+a+" to "+b+" through "+k.Pivot+",")
	}
}

// rateText writes a rate without the functions under test.
func rateText(r impl.Rate) string {
	return r.From + " " + r.To + " " + bigDec(r.R).FloatString(r.R.Scale)
}

func TestRateText(t *testing.T) {
	cases := []struct {
		r    impl.Rate
		want string
	}{
		{impl.Rate{From: "EUR", To: "CHF", R: scaled(1, plus(8))}, "EUR CHF 0.8"}, {impl.Rate{From: "CHF", To: "EUR", R: scaled(0, plus(1))}, "CHF EUR 1"}, {impl.Rate{From: "EUR", To: "JPY", R: scaled(0, plus(160))}, "EUR JPY 160"},
		{impl.Rate{From: "EUR", To: "JPY", R: scaled(2, plus(16000))}, "EUR JPY 160.00"}, {impl.Rate{From: "EUR", To: "JPY", R: scaled(1, plus(10))}, "EUR JPY 1.0"}, {impl.Rate{From: "EUR", To: "CHF", R: scaled(2, plus(80))}, "EUR CHF 0.80"},
		{impl.Rate{From: "USD", To: "KWD", R: scaled(30, plus(1))}, "USD KWD 0." + zerosText(29) + "1"}, {impl.Rate{From: "CLF", To: "KRW", R: scaled(0, plus(top, top))}, "CLF KRW " + ninesText(18)}, {impl.Rate{From: "AUD", To: "USD", R: scaled(30, plus(top, top))}, "AUD USD 0." + zerosText(12) + ninesText(18)},
		{impl.Rate{From: "AUD", To: "USD", R: scaled(18, plus(top, top))}, "AUD USD 0." + ninesText(18)}, {impl.Rate{From: "AUD", To: "USD", R: scaled(17, plus(top, top))}, "AUD USD 9." + ninesText(17)}, {impl.Rate{From: "AUD", To: "USD", R: scaled(9, plus(7, 1))}, "AUD USD 1.000000007"},
	}
	for _, c := range cases {
		if got := impl.RateText(c.r); got != c.want {
			t.Errorf("RateText(%v) = %q, not %q", c.r, got, c.want)
		}
		got, ok := impl.TextRate(c.want)
		checkRate(t, got, ok, c.r, true, "TextRate", c.want)
	}
	for _, r := range slices.Concat(badRates(), fewBadRates()) {
		if got := impl.RateText(r); got != "" {
			t.Errorf("RateText(%v) = %q", r, got)
		}
	}
}

// P3: a rate is recovered from its RateText, with its scale, for every pair of currencies.
func TestRateIsRecovered(t *testing.T) {
	codes := strings.Fields(curOrder)
	for _, from := range codes {
		for _, to := range codes {
			for _, number := range []string{"1", "0.5", "1.50", "107.3", "0.00001"} {
				checkRecovered(t, rate(from+" "+to+" "+number), from != to)
			}
		}
	}
	r := rand.New(rand.NewPCG(10, 14))
	for range 3000 {
		num := limitedSigned(new(big.Int).Add(big.NewInt(r.Int64N(1+r.Int64N(999999999999999999))), big.NewInt(1)))
		checkRecovered(t, impl.Rate{From: codes[r.IntN(10)], To: codes[10+r.IntN(10)], R: scaled(r.IntN(31), num)}, true)
	}
	for _, d := range goodDecs() {
		checkRecovered(t, impl.Rate{From: "EUR", To: "GBP", R: d}, true)
	}
}

// checkRecovered takes also a rate between equal currencies, whose text is none.
func checkRecovered(t *testing.T, r impl.Rate, valid bool) {
	t.Helper()
	want, wantText := r, rateText(r)
	if !valid {
		want, wantText = impl.Rate{}, ""
	}
	if got := impl.RateText(r); got != wantText {
		t.Errorf("RateText(%v) = %q, not %q", r, got, wantText)
	}
	got, ok := impl.TextRate(rateText(r))
	checkRate(t, got, ok, want, valid, "TextRate", rateText(r))
}

var rateForm = regexp.MustCompile(`\A([A-Z]{3}) ([A-Z]{3}) ((?:0|[1-9][0-9]*)(?:\.[0-9]{1,30})?)\z`)

// checkTextRate knows the texts of the rates from their form, the currencies, and the size of the number.
func checkTextRate(t *testing.T, s string) {
	t.Helper()
	var want impl.Rate
	wantOk := false
	if parts := rateForm.FindStringSubmatch(s); parts != nil {
		d := decimal(parts[3])
		if size := len(d.Num.Mag); knownPlaces(parts[1]) >= 0 && knownPlaces(parts[2]) >= 0 && parts[1] != parts[2] && size > 0 && size <= 2 {
			want, wantOk = impl.Rate{From: parts[1], To: parts[2], R: d}, true
		}
	}
	got, ok := impl.TextRate(s)
	checkRate(t, got, ok, want, wantOk, "TextRate", s)
	if ok && (!impl.RateOk(got) || impl.RateText(got) != s) {
		t.Errorf("TextRate(%q) = %v, whose RateText is %q", s, got, impl.RateText(got))
	}
}

func TestTextRateRejects(t *testing.T) {
	cases := []string{
		"", " ", "  ", "   ", "EUR", "EUR ", "EUR CHF", "EUR CHF ", "CHF 0.8", " CHF 0.8", "EUR  0.8", "0.8", " 0.8", "  0.8", "EUR 0.8", "EUR 0.8 CHF", "0.8 EUR CHF", "EUR CHF EUR", "EUR CHF CHF 0.8", "EUR CHF 0.8 0.8", "EUR CHF 0.8 CHF", "EUR,CHF,0.8", "EUR/CHF 0.8", "EUR > CHF 0.8",
		"XXX CHF 0.8", "EUR XXX 0.8", "XXX YYY 0.8", "XXX XXX 1", "DEM EUR 2", "EUR DEM 2", "EURO CHF 0.8", "EUR CH 0.8", "E CHF 0.8", "978 756 0.8", "978 CHF 0.8", "EUR 756 0.8", "\u20ac CHF 0.8", "EUR $ 0.8", "\u0415UR CHF 0.8",
		"EUR EUR 1", "EUR EUR 0.8", "CHF CHF 1", "JPY JPY 1.0", "USD USD 2",
		"eur CHF 0.8", "EUR chf 0.8", "eur chf 0.8", "Eur CHF 0.8", "EUR CHf 0.8", "eur EUR 1", "EUR eur 1",
		"EURCHF 0.8", "EUR CHF0.8", "EURCHF0.8", "EUR  CHF 0.8", "EUR CHF  0.8", "EUR  CHF  0.8", "EUR   CHF 0.8", "EUR CHF 0 .8", "EUR CHF 0. 8", "E UR CHF 0.8", "EUR CH F 0.8", "EUR CHF 1 000",
		" EUR CHF 0.8", "  EUR CHF 0.8", "EUR CHF 0.8 ", "EUR CHF 0.8  ", " EUR CHF 0.8 ", "EUR CHF 0.8\n", "\nEUR CHF 0.8", "EUR CHF 0.8\r\n", "\tEUR CHF 0.8", "EUR\tCHF 0.8", "EUR CHF\t0.8", "EUR\nCHF 0.8", "EUR CHF\n0.8", "EUR\u00a0CHF 0.8", "EUR CHF\u00a00.8", "EUR CHF 0.8\x00", "\x00EUR CHF 0.8", "\ufeffEUR CHF 0.8",
		"EUR CHF -0.8", "EUR CHF +0.8", "EUR CHF -1", "EUR CHF +1", "EUR CHF --0.8", "EUR CHF 0.8-", "EUR CHF - 0.8", "EUR CHF -", "EUR CHF +", "-EUR CHF 0.8", "EUR -CHF 0.8", "EUR CHF -0", "EUR CHF -0.0", "EUR CHF \u22120.8",
		"EUR CHF 0", "EUR CHF 0.0", "EUR CHF 0.00", "EUR CHF 0." + zerosText(30), "EUR CHF 0." + zerosText(31), "EUR CHF 00", "EUR CHF 00.0", "EUR CHF +0",
		"EUR CHF 1" + zerosText(18), "EUR CHF " + ninesText(19), "EUR CHF 1." + zerosText(18), "EUR CHF 1" + zerosText(17) + ".0", "EUR CHF " + ninesText(18) + ".0", "EUR CHF " + ninesText(18) + ".9", "EUR CHF 0." + ninesText(19), "EUR CHF 1" + zerosText(26), "EUR CHF " + ninesText(27), "EUR CHF 0.1" + zerosText(18), "EUR CHF 1." + zerosText(29) + "1", "EUR CHF " + ninesText(54), "EUR CHF " + ninesText(55), "EUR CHF " + ninesText(450), "EUR CHF " + ninesText(451),
		"EUR CHF 1.", "EUR CHF 0.", "EUR CHF .8", "EUR CHF .", "EUR CHF 1..8", "EUR CHF 1.8.", "EUR CHF 1.8.0", "EUR CHF .80", "EUR CHF 1,8", "EUR CHF 1'000",
		"EUR CHF 01", "EUR CHF 00.8", "EUR CHF 01.50", "EUR CHF 007", "EUR CHF 0" + ninesText(18), "EUR CHF 00.80", "EUR CHF 1." + zerosText(31), "EUR CHF 0." + zerosText(30) + "1", "EUR CHF 0.8" + zerosText(30), "EUR CHF 0.8" + zerosText(20),
		"EUR CHF a", "EUR CHF 0.8a", "EUR CHF 1e3", "EUR CHF 0x1", "EUR CHF 1_0", "EUR CHF 4/5", "EUR CHF 80%", "EUR CHF Inf", "EUR CHF NaN", "EUR CHF \u0661", "EUR CHF \uff11",
		"\xff", "\xff\xfe\xfd CHF 0.8", "EUR \xff\xfe\xfd 0.8", "E\xffR CHF 0.8", "EUR C\xffF 0.8", "EUR CHF \xff", "EUR CHF 0\xff8", "EUR CHF 0.8\xff", "\xffEUR CHF 0.8", "EUR\xffCHF 0.8", "EUR CHF\xff0.8", "EUR \xffCHF 0.8", "\x80 \x80 \x80",
		strings.Repeat(" ", 1<<16), strings.Repeat("EUR ", 1<<14), strings.Repeat("EUR", 1<<14) + " CHF 0.8", "EUR" + strings.Repeat(" ", 1<<16) + "CHF 0.8", strings.Repeat("EUR CHF 0.8 ", 1<<12), "EUR CHF " + strings.Repeat("7", 1<<16), "EUR CHF 0." + zerosText(1<<16) + "1", strings.Repeat("\xff", 1<<16),
	}
	for _, s := range cases {
		got, ok := impl.TextRate(s)
		checkRate(t, got, ok, impl.Rate{}, false, "TextRate", s)
		checkTextRate(t, s)
	}
}

// Zeros behind the point are part of the text as long as DecText writes them.
func TestTextRateAtTheLimit(t *testing.T) {
	for size := 1; size <= 36; size++ {
		for _, digits := range []string{ninesText(size), "1" + zerosText(size-1), zerosText(size), "0" + ninesText(size-1), zerosText(size-1) + "1"} {
			for point := range size {
				checkTextRate(t, "EUR JPY "+digits[:size-point]+"."+digits[size-point:])
			}
			checkTextRate(t, "EUR JPY "+digits)
			checkTextRate(t, "EUR JPY 0."+digits)
			checkTextRate(t, "EUR JPY 8."+digits)
			checkTextRate(t, "EUR JPY -"+digits)
		}
	}
}

// P3: TextRate accepts no string but the RateText of a rate.
func TestTextRateAcceptsOnlyRateText(t *testing.T) {
	for _, s := range slices.Concat(texts("-.015", 4), texts("-. +02a\n\xff", 3)) {
		for _, before := range []string{"", "EUR ", "EUR USD ", "EUR USD 0.", "EUR USD 12", "EUR EUR ", "EUR XXX ", "XXX EUR ", "eur USD ", "EUR USD", "EURUSD "} {
			checkTextRate(t, before+s)
		}
	}
	for _, code := range texts("EURJPYeur 0\xff", 3) {
		checkTextRate(t, code+" USD 1.50")
		checkTextRate(t, "USD "+code+" 7")
		checkTextRate(t, code+" "+code+" 1")
	}
}

// Every byte at every place of a text, ahead of it, behind it and instead of it, and the text without it.
func TestTextRateEveryByte(t *testing.T) {
	for _, base := range []string{"EUR CHF 0.8", "USD JPY 160", "CLF KWD 10.050", "AUD NZD 1"} {
		for _, s := range neighbours(base) {
			checkTextRate(t, s)
		}
	}
}

// markedRates have the list of arg marked.
type markedRates struct {
	marked[impl.Rate]
	arg impl.Rates
}

func roomyRate(r impl.Rate) (impl.Rate, []int) {
	d, memory := roomyDec(r.R)
	return impl.Rate{From: r.From, To: r.To, R: d}, memory
}

func roomyRates(k impl.Rates) markedRates {
	behind := []impl.Rate{rate("XXX YYY -77"), {From: "EUR", To: "USD", R: decimal("77")}, {}}
	m := markedRates{marked: roomyList(k.List, behind, roomyRate, sameRate)}
	m.arg = impl.Rates{Pivot: k.Pivot, List: m.marked.arg}
	return m
}

// overwriteRates writes over all that a result holds, and over the capacity behind it.
func overwriteRates(k impl.Rates) {
	for _, r := range k.List {
		overwrite(r.R.Num.Mag)
	}
	overwriteList(k.List, rate("ZZZ ZZZ -88"))
}

func overwriteTexts(l []string) { overwriteList(l, "ZZZ") }

// memoryTables are of all kinds: empty, full, with and without the pair that is put, and not valid.
func memoryTables() []impl.Rates {
	full := impl.Rates{Pivot: "CHF", List: rateRow(12)}
	return append([]impl.Rates{{Pivot: "EUR"}, {Pivot: "EUR", List: []impl.Rate{}}, rates("EUR", "EUR USD 2"), rates("EUR", "USD EUR 0.80", "EUR CHF 1.5", "CHF USD 3"), rates("USD", opposedTexts()...), full, {}, {Pivot: "EUR", List: rateRow(13)}, {Pivot: "EUR", List: fewBadRates()}}, twiceTables()[:3]...)
}

func memoryRates() []impl.Rate {
	return append([]impl.Rate{rate("EUR USD 7"), rate("USD EUR 0.5"), rate("AUD BHD 1.50"), rate("SEK TND 2"), {From: "CHF", To: "USD", R: scaled(30, plus(top, top))}}, fewBadRates()...)
}

// Chapter 1: no function changes an argument or the capacity behind it, and a result shares no memory with an argument.
func TestRatesLeaveArguments(t *testing.T) {
	for _, k := range memoryTables() {
		arg := roomyRates(k)
		impl.RatesOk(arg.arg)
		for _, a := range []string{"EUR", "USD", "CHF", "XXX"} {
			for _, b := range []string{"EUR", "USD", "CHF", "XXX"} {
				impl.RateHow(arg.arg, a, b)
				found, _ := impl.RateOf(arg.arg, a, b)
				overwriteRat(found)
				overwriteTexts(impl.RatePath(arg.arg, a, b))
			}
		}
		for _, r := range memoryRates() {
			second, memory := roomyRate(r)
			before := slices.Clone(memory)
			impl.RateOk(second)
			impl.RateText(second)
			put, _ := impl.RatePut(arg.arg, second)
			overwriteRates(put)
			if !slices.Equal(memory, before) || !sameRate(second, r) {
				t.Fatalf("the rate %v was changed or shares memory with a result", r)
			}
		}
		if arg.changed() {
			t.Fatalf("the rates %v were changed or share memory with a result", k)
		}
	}
}

// A result of RatePut stays as it is when its arguments and another result are changed afterwards.
func TestRatePutResultsAreTheirOwn(t *testing.T) {
	for _, k := range memoryTables() {
		for _, r := range memoryRates() {
			arg := roomyRates(k)
			second, memory := roomyRate(r)
			got, ok := impl.RatePut(arg.arg, second)
			want := cloneRates(got)
			again, _ := impl.RatePut(arg.arg, second)
			overwriteRates(again)
			checkRates(t, got, ok, want, ok, "RatePut, called again,", k, r)
			overwriteRates(impl.Rates{List: arg.list})
			overwrite(memory)
			checkRates(t, got, ok, want, ok, "RatePut, whose arguments were overwritten,", k, r)
			got, ok = impl.RatePut(k, r)
			checkRates(t, got, ok, want, ok, "RatePut, called a third time,", k, r)
		}
	}
}

// The rates of one result share no memory with each other, also where those of the arguments do.
func TestRatePutResultsAreApart(t *testing.T) {
	mag, _ := roomy([]int{7, 5})
	shared := impl.Dec{Num: plus(mag...), Scale: 2}
	k := rates("EUR", "EUR USD 1", "USD EUR 1", "EUR CHF 1")
	for i := range k.List {
		k.List[i].R = shared
	}
	for _, r := range []impl.Rate{{From: "USD", To: "EUR", R: shared}, {From: "CHF", To: "JPY", R: shared}, rate("EUR CHF 3"), rate("CHF JPY 3")} {
		want, _ := impl.RatePut(k, r)
		want = cloneRates(want)
		for place := range want.List {
			got, ok := impl.RatePut(k, r)
			overwrite(got.List[place].R.Num.Mag)
			got.List[place] = want.List[place]
			checkRates(t, got, ok, want, true, "RatePut, one of whose rates was overwritten,", k, r)
		}
	}
	if !slices.Equal(mag, []int{7, 5}) {
		t.Error("RatePut shares memory with its arguments")
	}
}

// The two parts of RateOf share no memory with each other, with the rates or with a later result, also where they are equal.
func TestRateOfIsApart(t *testing.T) {
	for _, k := range append(memoryTables(), rates("EUR", "USD EUR 1", "EUR CHF 1")) {
		for _, a := range []string{"EUR", "USD", "CHF", "XXX"} {
			for _, b := range []string{"EUR", "USD", "CHF"} {
				arg := roomyRates(k)
				got, ok := impl.RateOf(arg.arg, a, b)
				other, _ := impl.RateOf(arg.arg, a, b)
				want := cloneRat(got)
				overwriteRates(impl.Rates{List: arg.list})
				checkRat(t, got, ok, want, ok, "RateOf, whose rates were overwritten,")
				overwrite(got.Num.Mag)
				if !slices.Equal(got.Den, want.Den) || !sameRat(other, want) {
					t.Errorf("RateOf of %v, %s, %s: overwriting the numerator changed another part or result", k, a, b)
				}
				overwrite(other.Den)
				again, _ := impl.RateOf(k, a, b)
				if !sameSigned(other.Num, want.Num) || !sameRat(again, want) {
					t.Errorf("RateOf of %v, %s, %s: overwriting the denominator changed another part or result", k, a, b)
				}
			}
		}
	}
}

// What RatePath and TextRate return is new each time.
func TestRatePathsAndTextsAreNew(t *testing.T) {
	for _, k := range memoryTables() {
		for _, a := range []string{"EUR", "USD", "CHF", "BHD"} {
			for _, b := range []string{"EUR", "USD", "CHF", "AUD"} {
				first := impl.RatePath(k, a, b)
				want := slices.Clone(first)
				overwriteTexts(impl.RatePath(k, a, b))
				if !slices.Equal(first, want) || !slices.Equal(impl.RatePath(k, a, b), want) {
					t.Errorf("RatePath of %v, %s, %s: results share memory", k, a, b)
				}
			}
		}
	}
	for _, d := range extremeDecs() {
		r := impl.Rate{From: "JPY", To: "EUR", R: d}
		first, _ := impl.TextRate(rateText(r))
		second, _ := impl.TextRate(rateText(r))
		overwrite(second.R.Num.Mag)
		if third, ok := impl.TextRate(rateText(r)); !ok || !sameRate(first, r) || !sameRate(third, r) {
			t.Errorf("TextRate of %v: results share memory", r)
		}
	}
}

// The map that is built in a call gives its elements out in any order, and no answer follows it.
func TestRateAnswersStay(t *testing.T) {
	twice := rates("EUR", "EUR USD 1", "USD EUR 1", "EUR CHF 1", "CHF EUR 1", "EUR JPY 1", "JPY EUR 1", "EUR USD 2")
	once := rates("EUR", "USD EUR 2", "EUR USD 3", "EUR CHF 5", "CHF EUR 7")
	for range 1000 {
		if impl.RatesOk(twice) || !impl.RatesOk(once) {
			t.Fatalf("RatesOk(%v) = %v, RatesOk(%v) = %v", twice, impl.RatesOk(twice), once, impl.RatesOk(once))
		}
		checkNotFound(t, twice, "EUR", "CHF")
		checkFound(t, once, "USD", "CHF", impl.HwPivot, big.NewRat(10, 1))
	}
}
