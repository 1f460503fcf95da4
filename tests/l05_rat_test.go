package tests

import (
	"math/big"
	"math/rand/v2"
	"regexp"
	"slices"
	"strings"
	"testing"

	"loop.example/g00793/impl"
)

// fraction takes its parts as they are, whether they are a fraction in lowest terms or not.
func fraction(num impl.Signed, den ...int) impl.Rat {
	return impl.Rat{Num: num, Den: den}
}

func bigRat(r impl.Rat) *big.Rat {
	return new(big.Rat).SetFrac(bigSigned(r.Num), bigOf(r.Den))
}

// limitedRat is the zero value and false for a fraction with more than MaxRat limbs, as the results of the chapter are.
func limitedRat(q *big.Rat) (impl.Rat, bool) {
	r := fraction(limitedSigned(q.Num()), limitedLimbs(q.Denom())...)
	if len(limbsOf(new(big.Int).Abs(q.Num()))) > 18 || len(limbsOf(q.Denom())) > 18 {
		return impl.Rat{}, false
	}
	return r, true
}

// limitedQuo is the quotient of two integers, which does not exist for a divisor of 0.
func limitedQuo(x *big.Int, y *big.Int) (impl.Rat, bool) {
	if y.Sign() == 0 {
		return impl.Rat{}, false
	}
	return limitedRat(new(big.Rat).SetFrac(x, y))
}

func oppositeRat(r impl.Rat) impl.Rat {
	return fraction(opposite(r.Num), slices.Clone(r.Den)...)
}

func sameRat(r impl.Rat, s impl.Rat) bool {
	return sameSigned(r.Num, s.Num) && slices.Equal(r.Den, s.Den)
}

func cloneRat(r impl.Rat) impl.Rat {
	return fraction(cloneSigned(r.Num), slices.Clone(r.Den)...)
}

// lowRats reduces every quotient of a numerator and a denominator, leaves out those that are too large and keeps each value once.
func lowRats(nums []impl.Signed, dens [][]int) []impl.Rat {
	var all []impl.Rat
	for _, num := range nums {
		for _, den := range dens {
			r, ok := limitedQuo(bigSigned(num), bigOf(den))
			if ok && !slices.ContainsFunc(all, func(s impl.Rat) bool { return sameRat(r, s) }) {
				all = append(all, r)
			}
		}
	}
	return all
}

// fewRats have at most 3 limbs, so that sums and products of three of them are fractions; all triples are tried.
func fewRats() []impl.Rat {
	nums := bothSigns([][]int{nil, {1}, {6}, {top}, {7, 0, 5}})
	return lowRats(nums, [][]int{{1}, {4}, {0, 1}, {3, 12, 9}})
}

func smallRats() []impl.Rat {
	nums := bothSigns([][]int{nil, {1}, {2}, {3}, {12}, {top}, {0, 1}, {3, 12}})
	return append(lowRats(nums, [][]int{{1}, {2}, {3}, {6}, {top}, {0, 1}}), fewRats()...)
}

// limitRats have numerators and denominators around half of MaxRat limbs, where products and sums leave the fractions, and of exactly MaxRat limbs.
func limitRats() []impl.Rat {
	parts := [][]int{{1}, powerOfBase(9), sameLimbs(9, top), powerOfBase(10), sameLimbs(17, top), powerOfBase(18), sameLimbs(18, top)}
	return lowRats(bothSigns(parts), parts)
}

// manyRats adds a fixed choice of others, of all lengths.
func manyRats() []impl.Rat {
	all := slices.Concat(smallRats(), limitRats())
	r := rand.New(rand.NewPCG(5, 12))
	for n := range 19 {
		num := bothSigns([][]int{randomNat(r, n)})
		all = append(all, lowRats(num, [][]int{randomNat(r, 1+r.IntN(18)), randomNat(r, 19-max(1, n))})...)
	}
	return all
}

// badRats are wrong in one thing each, as far as that is possible.
func badRats() []impl.Rat {
	all := []impl.Rat{
		{}, {Den: []int{}}, {Num: plus(1)}, {Num: minus(1), Den: []int{}}, {Num: plus(sameLimbs(18, top)...)}, {Num: impl.Signed{Neg: true}},
		fraction(plus(), 2), fraction(plus(), top), fraction(plus(), 0, 1), fraction(plus(), sameLimbs(18, top)...), fraction(impl.Signed{Mag: []int{}}, 3),
		fraction(plus(2), 4), fraction(minus(2), 4), fraction(plus(6), 3), fraction(minus(6), 3), fraction(plus(5), 5), fraction(minus(5), 5),
		fraction(plus(9), 6), fraction(plus(0, 1), 0, 1), fraction(minus(0, 3), 2), fraction(plus(5), 0, 1), fraction(plus(sameLimbs(18, top)...), top),
		fraction(minus(3), sameLimbs(18, top)...), fraction(minus(sameLimbs(18, 2)...), sameLimbs(18, 4)...), fraction(plus(powerOfBase(18)...), 2),
		fraction(plus(powerOfBase(19)...), 1), fraction(minus(powerOfBase(19)...), 7), fraction(plus(sameLimbs(19, top)...), 1), fraction(minus(powerOfBase(50)...), 1),
		fraction(plus(1), powerOfBase(19)...), fraction(minus(7), powerOfBase(19)...), fraction(plus(1), sameLimbs(19, top)...), fraction(minus(1), powerOfBase(50)...),
		fraction(plus(sameLimbs(19, top)...), powerOfBase(19)...), fraction(plus(powerOfBase(19)...), sameLimbs(18, top)...), fraction(minus(sameLimbs(18, top)...), powerOfBase(19)...),
		fraction(plus(), powerOfBase(19)...), fraction(plus(sameLimbs(20, 3)...), sameLimbs(20, 3)...),
	}
	for _, x := range badInts() {
		all = append(all, fraction(x, 1), fraction(x, 7), fraction(x))
	}
	for _, a := range badNats() {
		all = append(all, fraction(plus(), a...), fraction(plus(1), a...), fraction(minus(7), a...))
	}
	return all
}

func checkRat(t *testing.T, got impl.Rat, ok bool, want impl.Rat, wantOk bool, call string, args ...impl.Rat) {
	t.Helper()
	if !sameRat(got, want) || ok != wantOk {
		t.Errorf("%s of %v = %v, %v, not %v, %v", call, args, got, ok, want, wantOk)
	}
}

// checkRatBig holds a result against math/big; a nil is the quotient of a division by 0.
func checkRatBig(t *testing.T, got impl.Rat, ok bool, q *big.Rat, call string, args ...impl.Rat) {
	t.Helper()
	var want impl.Rat
	var wantOk bool
	if q != nil {
		want, wantOk = limitedRat(q)
	}
	checkRat(t, got, ok, want, wantOk, call, args...)
	if ok != impl.RatOk(got) {
		t.Errorf("%s of %v = %v, %v is not what RatOk says of it", call, args, got, ok)
	}
}

func bigRatQuo(q *big.Rat, d *big.Rat) *big.Rat {
	if d.Sign() == 0 {
		return nil
	}
	return new(big.Rat).Quo(q, d)
}

// ratReckonings lists the functions that make a fraction of two.
func ratReckonings() map[string]func(impl.Rat, impl.Rat) (impl.Rat, bool) {
	return map[string]func(impl.Rat, impl.Rat) (impl.Rat, bool){
		"RatAdd": impl.RatAdd, "RatSub": impl.RatSub, "RatMul": impl.RatMul, "RatDiv": impl.RatDiv,
	}
}

// ratPairs adds those that make a fraction of one, or of its parts; they ignore the second fraction or take its numerator.
func ratPairs() map[string]func(impl.Rat, impl.Rat) (impl.Rat, bool) {
	pairs := ratReckonings()
	pairs["RatNeg"] = func(r impl.Rat, _ impl.Rat) (impl.Rat, bool) { return impl.RatNeg(r) }
	pairs["RatInt"] = func(r impl.Rat, _ impl.Rat) (impl.Rat, bool) { return impl.RatInt(r.Num) }
	pairs["RatMake"] = func(r impl.Rat, s impl.Rat) (impl.Rat, bool) { return impl.RatMake(r.Num, s.Num) }
	return pairs
}

func TestRatLimit(t *testing.T) {
	if impl.MaxRat != 18 {
		t.Errorf("MaxRat = %d", impl.MaxRat)
	}
}

func TestRatOk(t *testing.T) {
	good := []impl.Rat{
		fraction(plus(), 1), fraction(impl.Signed{Mag: []int{}}, 1), fraction(plus(1), 1), fraction(minus(1), 1), fraction(plus(1), 2), fraction(minus(2), 3),
		fraction(plus(powerOfBase(18)...), 1), fraction(minus(powerOfBase(18)...), 3), fraction(plus(1), powerOfBase(18)...), fraction(minus(7), powerOfBase(18)...),
		fraction(plus(sameLimbs(18, top)...), powerOfBase(18)...), fraction(minus(powerOfBase(18)...), sameLimbs(18, top)...),
	}
	for _, r := range slices.Concat(good, manyRats()) {
		if !impl.RatOk(r) {
			t.Errorf("RatOk(%v) = false", r)
		}
	}
	for _, r := range badRats() {
		if impl.RatOk(r) {
			t.Errorf("RatOk(%v) = true", r)
		}
	}
}

func TestRatMake(t *testing.T) {
	cases := []struct {
		num  impl.Signed
		den  impl.Signed
		want impl.Rat
		ok   bool
	}{
		{plus(4), plus(6), fraction(plus(2), 3), true}, {plus(4), minus(6), fraction(minus(2), 3), true},
		{minus(4), plus(6), fraction(minus(2), 3), true}, {minus(4), minus(6), fraction(plus(2), 3), true},
		{plus(2), plus(3), fraction(plus(2), 3), true}, {minus(2), minus(3), fraction(plus(2), 3), true}, {plus(2), minus(3), fraction(minus(2), 3), true},
		{plus(4), plus(2), fraction(plus(2), 1), true}, {plus(4), minus(2), fraction(minus(2), 1), true}, {minus(5), minus(5), fraction(plus(1), 1), true},
		{plus(5), minus(5), fraction(minus(1), 1), true}, {plus(1), plus(5), fraction(plus(1), 5), true}, {minus(7), plus(1), fraction(minus(7), 1), true},
		{plus(), plus(1), fraction(plus(), 1), true}, {plus(), minus(1), fraction(plus(), 1), true}, {plus(), plus(7), fraction(plus(), 1), true},
		{plus(), minus(7), fraction(plus(), 1), true}, {impl.Signed{Mag: []int{}}, minus(0, 4), fraction(plus(), 1), true},
		{plus(), minus(sameLimbs(50, top)...), fraction(plus(), 1), true},
		{plus(0, 1), plus(0, 2), fraction(plus(1), 2), true}, {minus(0, 0, 5), plus(0, 1), fraction(minus(0, 5), 1), true}, {plus(3, 1), minus(0, 1), fraction(minus(3, 1), 0, 1), true},
		{plus(), plus(), impl.Rat{}, false}, {plus(1), plus(), impl.Rat{}, false}, {minus(1), impl.Signed{Mag: []int{}}, impl.Rat{}, false},
		{plus(sameLimbs(50, top)...), plus(), impl.Rat{}, false},
	}
	for _, c := range cases {
		got, ok := impl.RatMake(c.num, c.den)
		checkRat(t, got, ok, c.want, c.ok, "RatMake", fraction(c.num, c.den.Mag...))
	}
	for _, num := range limitInts() {
		for _, den := range limitInts() {
			want, wantOk := limitedQuo(bigSigned(num), bigSigned(den))
			got, ok := impl.RatMake(num, den)
			checkRat(t, got, ok, want, wantOk, "RatMake", fraction(num, den.Mag...))
		}
	}
}

// Integers of up to MaxLimbs limbs make a fraction if what remains without the common factor has at most MaxRat limbs.
func TestRatMakeReduces(t *testing.T) {
	r := rand.New(rand.NewPCG(5, 1))
	for _, factor := range [][]int{{1}, {2}, {0, 1}, {top, top}, sameLimbs(31, 1), powerOfBase(31), randomNat(r, 31), powerOfBase(32), sameLimbs(31, top)} {
		for _, x := range [][]int{nil, {1}, {7}, sameLimbs(17, top), powerOfBase(18), sameLimbs(18, top), powerOfBase(19), randomNat(r, 18), randomNat(r, 19)} {
			for _, y := range [][]int{{1}, {10}, sameLimbs(17, top), powerOfBase(18), sameLimbs(18, top), powerOfBase(19), randomNat(r, 18), randomNat(r, 19)} {
				checkRatMakeTimes(t, factor, x, y)
			}
		}
	}
	got, ok := impl.RatMake(minus(powerOfBase(50)...), plus(powerOfBase(33)...))
	checkRat(t, got, ok, fraction(minus(powerOfBase(18)...), 1), true, "Base^49 / Base^32")
	got, ok = impl.RatMake(minus(powerOfBase(50)...), plus(powerOfBase(32)...))
	checkRat(t, got, ok, impl.Rat{}, false, "Base^49 / Base^31")
	got, ok = impl.RatMake(plus(powerOfBase(33)...), minus(powerOfBase(50)...))
	checkRat(t, got, ok, fraction(minus(1), powerOfBase(18)...), true, "Base^32 / Base^49")
	got, ok = impl.RatMake(plus(powerOfBase(32)...), minus(powerOfBase(50)...))
	checkRat(t, got, ok, impl.Rat{}, false, "Base^31 / Base^49")
	got, ok = impl.RatMake(minus(sameLimbs(50, top)...), minus(sameLimbs(50, top)...))
	checkRat(t, got, ok, fraction(plus(1), 1), true, "the greatest integer over itself")
}

func checkRatMakeTimes(t *testing.T, factor []int, x []int, y []int) {
	t.Helper()
	num, den := new(big.Int).Mul(bigOf(x), bigOf(factor)), new(big.Int).Mul(bigOf(y), bigOf(factor))
	if len(limbsOf(num)) > 50 || len(limbsOf(den)) > 50 {
		return
	}
	for _, n := range bothSigns([][]int{limbsOf(num)}) {
		for _, d := range bothSigns([][]int{limbsOf(den)}) {
			want, wantOk := limitedQuo(bigSigned(n), bigSigned(d))
			got, ok := impl.RatMake(n, d)
			checkRat(t, got, ok, want, wantOk, "RatMake", fraction(n, d.Mag...))
		}
	}
}

func TestRatMakeInvalid(t *testing.T) {
	for _, bad := range badInts() {
		for _, other := range slices.Concat(limitInts(), badInts()) {
			got, ok := impl.RatMake(bad, other)
			checkRat(t, got, ok, impl.Rat{}, false, "RatMake", fraction(bad, other.Mag...))
			got, ok = impl.RatMake(other, bad)
			checkRat(t, got, ok, impl.Rat{}, false, "RatMake", fraction(other, bad.Mag...))
		}
	}
}

func TestRatIntAndZero(t *testing.T) {
	for _, x := range append(manyInts(), impl.Signed{Mag: []int{}}) {
		want, wantOk := limitedRat(new(big.Rat).SetInt(bigSigned(x)))
		got, ok := impl.RatInt(x)
		checkRat(t, got, ok, want, wantOk, "RatInt", fraction(x, 1))
	}
	cases := []struct {
		x  impl.Signed
		ok bool
	}{
		{plus(), true}, {plus(7), true}, {minus(7), true}, {minus(powerOfBase(18)...), true}, {plus(sameLimbs(18, top)...), true},
		{plus(powerOfBase(19)...), false}, {minus(powerOfBase(19)...), false}, {minus(sameLimbs(50, top)...), false},
	}
	for _, c := range cases {
		var want impl.Rat
		if c.ok {
			want = fraction(c.x, 1)
		}
		got, ok := impl.RatInt(c.x)
		checkRat(t, got, ok, want, c.ok, "RatInt", fraction(c.x, 1))
	}
	for _, bad := range badInts() {
		got, ok := impl.RatInt(bad)
		checkRat(t, got, ok, impl.Rat{}, false, "RatInt", fraction(bad, 1))
	}
	checkRat(t, impl.RatZero(), impl.RatOk(impl.RatZero()), fraction(plus(), 1), true, "RatZero")
}

func TestRatNeg(t *testing.T) {
	cases := []struct {
		r    impl.Rat
		want impl.Rat
	}{
		{fraction(plus(), 1), fraction(plus(), 1)}, {fraction(impl.Signed{Mag: []int{}}, 1), fraction(plus(), 1)},
		{fraction(plus(2), 3), fraction(minus(2), 3)}, {fraction(minus(2), 3), fraction(plus(2), 3)}, {fraction(minus(5), 1), fraction(plus(5), 1)},
		{fraction(plus(powerOfBase(18)...), sameLimbs(18, top)...), fraction(minus(powerOfBase(18)...), sameLimbs(18, top)...)},
	}
	for _, c := range cases {
		got, ok := impl.RatNeg(c.r)
		checkRat(t, got, ok, c.want, true, "RatNeg", c.r)
	}
	for _, r := range manyRats() {
		got, ok := impl.RatNeg(r)
		checkRat(t, got, ok, oppositeRat(r), true, "RatNeg", r)
		back, backOk := impl.RatNeg(got)
		checkRat(t, back, backOk, r, true, "-(-r)", r)
	}
}

func TestRatReckons(t *testing.T) {
	second, third, fourth, zero := fraction(plus(1), 2), fraction(plus(1), 3), fraction(plus(1), 4), fraction(plus(), 1)
	cases := []struct {
		call string
		r    impl.Rat
		s    impl.Rat
		want impl.Rat
		ok   bool
	}{
		{"RatAdd", second, third, fraction(plus(5), 6), true}, {"RatAdd", second, oppositeRat(third), fraction(plus(1), 6), true},
		{"RatAdd", fraction(plus(1), 6), third, second, true}, {"RatAdd", second, second, fraction(plus(1), 1), true}, {"RatAdd", second, oppositeRat(second), zero, true},
		{"RatAdd", fourth, fourth, second, true}, {"RatAdd", fraction(plus(7), 3), fraction(plus(2), 3), fraction(plus(3), 1), true},
		{"RatAdd", zero, fourth, fourth, true}, {"RatAdd", fourth, zero, fourth, true}, {"RatAdd", zero, zero, zero, true},
		{"RatSub", second, fraction(plus(3), 4), fraction(minus(1), 4), true}, {"RatSub", second, second, zero, true}, {"RatSub", zero, second, oppositeRat(second), true},
		{"RatSub", second, zero, second, true}, {"RatSub", second, oppositeRat(second), fraction(plus(1), 1), true}, {"RatSub", fraction(plus(7), 3), third, fraction(plus(2), 1), true},
		{"RatSub", third, fraction(plus(7), 3), fraction(minus(2), 1), true}, {"RatSub", fraction(plus(5), 6), third, second, true}, {"RatSub", zero, zero, zero, true},
		{"RatMul", fraction(plus(2), 3), fraction(plus(3), 4), second, true}, {"RatMul", fraction(minus(2), 3), fraction(plus(3), 4), oppositeRat(second), true},
		{"RatMul", fraction(minus(2), 3), fraction(minus(3), 2), fraction(plus(1), 1), true}, {"RatMul", fraction(plus(6), 1), third, fraction(plus(2), 1), true},
		{"RatMul", zero, fraction(minus(2), 3), zero, true}, {"RatMul", fraction(minus(2), 3), zero, zero, true}, {"RatMul", second, third, fraction(plus(1), 6), true},
		{"RatDiv", second, fourth, fraction(plus(2), 1), true}, {"RatDiv", fourth, second, second, true}, {"RatDiv", second, oppositeRat(fourth), fraction(minus(2), 1), true},
		{"RatDiv", oppositeRat(second), oppositeRat(fourth), fraction(plus(2), 1), true}, {"RatDiv", oppositeRat(second), third, fraction(minus(3), 2), true},
		{"RatDiv", zero, oppositeRat(third), zero, true}, {"RatDiv", third, fraction(minus(1), 1), oppositeRat(third), true}, {"RatDiv", third, third, fraction(plus(1), 1), true},
		{"RatDiv", second, zero, impl.Rat{}, false}, {"RatDiv", oppositeRat(second), zero, impl.Rat{}, false}, {"RatDiv", zero, zero, impl.Rat{}, false},
	}
	for _, c := range cases {
		got, ok := ratReckonings()[c.call](c.r, c.s)
		checkRat(t, got, ok, c.want, c.ok, c.call, c.r, c.s)
	}
}

// Every reckoning is held against math/big, which also says which results are too large.
func TestRatReckonsLikeBig(t *testing.T) {
	for _, r := range manyRats() {
		for _, s := range append(fewRats(), limitRats()...) {
			checkRatPair(t, r, s)
		}
	}
	random := rand.New(rand.NewPCG(5, 2))
	one := func() impl.Rat {
		signs := bothSigns([][]int{randomNat(random, 1+random.IntN(18))})
		r, _ := limitedQuo(bigSigned(signs[random.IntN(2)]), bigOf(randomNat(random, 1+random.IntN(18))))
		return r
	}
	for range 2000 {
		checkRatPair(t, one(), one())
	}
}

func checkRatPair(t *testing.T, r impl.Rat, s impl.Rat) {
	t.Helper()
	q, d := bigRat(r), bigRat(s)
	wants := map[string]*big.Rat{
		"RatAdd": new(big.Rat).Add(q, d), "RatSub": new(big.Rat).Sub(q, d), "RatMul": new(big.Rat).Mul(q, d), "RatDiv": bigRatQuo(q, d),
	}
	for call, f := range ratReckonings() {
		got, ok := f(r, s)
		checkRatBig(t, got, ok, wants[call], call, r, s)
	}
}

// ends has MaxRat limbs, of which the first and the last one are given and the others are 0.
func ends(first int, last int) []int {
	return append(append([]int{first}, make([]int, 16)...), last)
}

// Results with a numerator or a denominator of exactly MaxRat limbs, and of one more.
func TestRatReckonsAtTheLimit(t *testing.T) {
	greatest, most := fraction(plus(sameLimbs(18, top)...), 1), fraction(plus(powerOfBase(18)...), 1)
	before := fraction(plus(append([]int{top - 1}, sameLimbs(17, top)...)...), 1)
	one, tiny := fraction(plus(1), 1), fraction(plus(1), powerOfBase(18)...)
	nine, ten := fraction(plus(powerOfBase(9)...), 1), fraction(plus(powerOfBase(10)...), 1)
	ninth, tenth := fraction(plus(1), powerOfBase(9)...), fraction(plus(1), powerOfBase(10)...)
	base, part, small := fraction(plus(0, 1), 1), fraction(plus(1), 0, 1), fraction(plus(1), sameLimbs(18, top)...)
	cases := []struct {
		call string
		r    impl.Rat
		s    impl.Rat
		want impl.Rat
		ok   bool
	}{
		{"RatAdd", before, one, greatest, true}, {"RatAdd", greatest, one, impl.Rat{}, false}, {"RatAdd", greatest, greatest, impl.Rat{}, false},
		{"RatAdd", greatest, oppositeRat(greatest), fraction(plus(), 1), true}, {"RatAdd", greatest, fraction(plus(1), 2), impl.Rat{}, false},
		{"RatAdd", tiny, tiny, fraction(plus(1), append(make([]int, 16), half)...), true}, {"RatAdd", small, fraction(plus(1), 2), impl.Rat{}, false},
		{"RatAdd", tiny, fraction(plus(1), 7), fraction(plus(ends(7, 1)...), ends(0, 7)...), true}, {"RatAdd", one, tiny, fraction(plus(ends(1, 1)...), powerOfBase(18)...), true},
		{"RatAdd", ten, tenth, impl.Rat{}, false}, {"RatAdd", nine, tenth, fraction(plus(ends(1, 1)...), powerOfBase(10)...), true}, {"RatAdd", ten, ninth, fraction(plus(ends(1, 1)...), powerOfBase(9)...), true},
		{"RatSub", oppositeRat(before), one, oppositeRat(greatest), true}, {"RatSub", oppositeRat(greatest), one, impl.Rat{}, false}, {"RatSub", greatest, one, before, true},
		{"RatSub", greatest, oppositeRat(one), impl.Rat{}, false}, {"RatSub", greatest, greatest, fraction(plus(), 1), true}, {"RatSub", tiny, small, impl.Rat{}, false},
		{"RatSub", tiny, tiny, fraction(plus(), 1), true}, {"RatSub", small, fraction(plus(1), 2), impl.Rat{}, false},
		{"RatMul", nine, ten, most, true}, {"RatMul", ten, ten, impl.Rat{}, false}, {"RatMul", ninth, tenth, tiny, true}, {"RatMul", tenth, oppositeRat(tenth), impl.Rat{}, false},
		{"RatMul", most, one, most, true}, {"RatMul", most, base, impl.Rat{}, false}, {"RatMul", most, tiny, one, true}, {"RatMul", tiny, part, impl.Rat{}, false},
		{"RatMul", greatest, oppositeRat(small), oppositeRat(one), true}, {"RatMul", greatest, tiny, fraction(greatest.Num, tiny.Den...), true},
		{"RatMul", fraction(greatest.Num, tiny.Den...), fraction(most.Num, small.Den...), one, true},
		{"RatDiv", nine, tenth, most, true}, {"RatDiv", ten, tenth, impl.Rat{}, false}, {"RatDiv", ninth, ten, tiny, true}, {"RatDiv", tenth, oppositeRat(ten), impl.Rat{}, false},
		{"RatDiv", one, tiny, most, true}, {"RatDiv", oppositeRat(one), most, oppositeRat(tiny), true}, {"RatDiv", base, tiny, impl.Rat{}, false}, {"RatDiv", part, most, impl.Rat{}, false},
		{"RatDiv", greatest, greatest, one, true}, {"RatDiv", tiny, oppositeRat(tiny), oppositeRat(one), true}, {"RatDiv", one, oppositeRat(small), oppositeRat(greatest), true},
		{"RatDiv", greatest, most, fraction(greatest.Num, tiny.Den...), true},
	}
	for _, c := range cases {
		got, ok := ratReckonings()[c.call](c.r, c.s)
		checkRat(t, got, ok, c.want, c.ok, c.call, c.r, c.s)
	}
}

func TestRatCmpAndSign(t *testing.T) {
	last := sameLimbs(18, top)
	third, second := append([]int{top - 2}, last[1:]...), append([]int{top - 1}, last[1:]...)
	zero, greatest, tiny := fraction(plus(), 1), fraction(plus(last...), 1), fraction(plus(1), last...)
	lower, low, high := fraction(plus(third...), second...), fraction(plus(second...), last...), fraction(plus(last...), second...)
	cases := []struct {
		r    impl.Rat
		s    impl.Rat
		want int
	}{
		{zero, zero, 0}, {zero, fraction(impl.Signed{Mag: []int{}}, 1), 0}, {zero, tiny, -1}, {zero, oppositeRat(tiny), 1}, {zero, greatest, -1},
		{fraction(plus(1), 2), fraction(plus(1), 2), 0}, {fraction(minus(2), 3), fraction(minus(2), 3), 0}, {fraction(plus(1), 2), fraction(plus(1), 3), 1},
		{fraction(minus(1), 2), fraction(minus(1), 3), -1}, {fraction(plus(1), 2), fraction(minus(1), 2), 1}, {fraction(minus(2), 1), fraction(plus(1), 9), -1},
		{fraction(plus(2), 3), fraction(plus(3), 4), -1}, {fraction(plus(7), 2), fraction(plus(3), 1), 1}, {fraction(plus(7), 2), fraction(plus(4), 1), -1},
		{greatest, tiny, 1}, {greatest, oppositeRat(tiny), 1}, {greatest, oppositeRat(greatest), 1}, {oppositeRat(greatest), tiny, -1}, {greatest, greatest, 0}, {tiny, tiny, 0},
		{tiny, fraction(plus(1), powerOfBase(18)...), -1}, {lower, low, -1}, {low, high, -1}, {lower, lower, 0}, {low, fraction(plus(1), 1), -1}, {high, fraction(plus(1), 1), 1},
		{oppositeRat(lower), oppositeRat(low), 1}, {oppositeRat(low), oppositeRat(high), 1}, {oppositeRat(high), fraction(minus(1), 1), -1}, {oppositeRat(low), high, -1},
	}
	for _, c := range cases {
		if got, back := impl.RatCmp(c.r, c.s), impl.RatCmp(c.s, c.r); got != c.want || back != -c.want {
			t.Errorf("RatCmp of %v and %v = %d, of the other order %d, not %d", c.r, c.s, got, back, c.want)
		}
	}
	for _, r := range manyRats() {
		if got, want := impl.RatSign(r), bigRat(r).Sign(); got != want {
			t.Errorf("RatSign(%v) = %d, not %d", r, got, want)
		}
		for _, s := range manyRats() {
			if got, want := impl.RatCmp(r, s), bigRat(r).Cmp(bigRat(s)); got != want {
				t.Errorf("RatCmp(%v, %v) = %d, not %d", r, s, got, want)
			}
		}
	}
}

func TestRatText(t *testing.T) {
	nines, zeros := strings.Repeat("9", 162), "1"+strings.Repeat("0", 153)
	cases := []struct {
		r    impl.Rat
		want string
	}{
		{fraction(plus(), 1), "0"}, {fraction(impl.Signed{Mag: []int{}}, 1), "0"}, {fraction(plus(1), 1), "1"}, {fraction(plus(7), 1), "7"}, {fraction(minus(7), 1), "-7"},
		{fraction(plus(1), 2), "1/2"}, {fraction(minus(2), 3), "-2/3"}, {fraction(plus(7), 2), "7/2"}, {fraction(minus(3, 12), 0, 1), "-12000000003/1000000000"},
		{fraction(minus(1), 1, 0, 5), "-1/5000000000000000001"}, {fraction(plus(sameLimbs(18, top)...), 1), nines}, {fraction(minus(1), sameLimbs(18, top)...), "-1/" + nines},
		{fraction(minus(sameLimbs(18, top)...), powerOfBase(18)...), "-" + nines + "/" + zeros},
	}
	for _, c := range cases {
		if got := impl.RatText(c.r); got != c.want {
			t.Errorf("RatText(%v) = %q, not %q", c.r, got, c.want)
		}
	}
	for _, r := range manyRats() {
		if got, want := impl.RatText(r), bigRat(r).RatString(); got != want {
			t.Errorf("RatText(%v) = %q, not %q", r, got, want)
		}
	}
}

// P3: a fraction is recovered from its RatText.
func TestTextRatAccepts(t *testing.T) {
	for _, r := range manyRats() {
		got, ok := impl.TextRat(bigRat(r).RatString())
		checkRat(t, got, ok, r, true, "TextRat", r)
		got, ok = impl.TextRat(impl.RatText(r))
		checkRat(t, got, ok, r, true, "TextRat(RatText)", r)
	}
	for size := 1; size <= 165; size++ {
		nines, zeros := strings.Repeat("9", size), "1"+strings.Repeat("0", size-1)
		for _, s := range []string{nines, zeros, "-" + nines, "-" + zeros, "7/" + nines, "-7/" + zeros + "0", nines + "/" + zeros + "0", "-" + zeros + "/" + nines + "0" + nines} {
			q, _ := new(big.Rat).SetString(s)
			var want impl.Rat
			wantOk := false
			if q.RatString() == s {
				want, wantOk = limitedRat(q)
			}
			got, ok := impl.TextRat(s)
			checkRat(t, got, ok, want, wantOk, "TextRat of "+s)
		}
	}
}

func TestTextRatRejects(t *testing.T) {
	nines := strings.Repeat("9", 162)
	cases := []string{
		"", "/", "-", "-/", "1/", "/1", "-1/", "-/2", "/-1", "//", "1//2", "1/2/3", "1/2/", "/1/2", "2/3/1", "1/1/1", "1/2/2",
		"0/0", "1/0", "-1/0", "0/1", "0/2", "0/-1", "-0", "-0/1", "-0/2", "0/00", "1/00", "0/", "/0",
		"1/1", "-1/1", "7/1", "-7/1", "2/2", "2/4", "-2/4", "4/2", "6/3", "9/6", "1000000000/1000000000", "5/1000000000",
		"1/-2", "-1/-2", "1/+2", "+1/2", "+1", "--1/2", "--1", "1-/2", "1/2-", "-+1/2",
		"01/2", "1/02", "-01/2", "00", "007", "0/07", "00/1", "1/002", "01", "-07",
		" 1/2", "1/2 ", "1 /2", "1/ 2", "1 / 2", "- 1/2", " ", " 1", "1 ", "1/2\n", "\n1/2", "1\n", "1/\n2", "1\t/2",
		"a", "a/2", "1/a", "1a/2", "1/2a", "1.5", "1,5", "1:2", "1\\2", "0.5/2", "1e3", "1/1e3", "0x1/2", "1_0/3", "1/1_0", "1/2%",
		"\x00", "1/2\x00", "1\x00/2", "\xff", "1/\xff2", "\xff/2", "\u0661/2", "1/\u0662", "1\u20442", "\u00bd", "\u22121/2",
		"9" + nines, "-1" + strings.Repeat("0", 162), "1/9" + nines, "7/1" + strings.Repeat("0", 162), "9" + nines + "/7", "9" + nines + "/1" + strings.Repeat("0", 162),
		"1" + strings.Repeat("0", 162) + "/1", "1" + strings.Repeat("0", 170) + "/1" + strings.Repeat("0", 169), "0" + nines, "1/0" + nines,
		strings.Repeat("9", 450), "1/" + strings.Repeat("9", 450), strings.Repeat("9", 451), "1/" + strings.Repeat("9", 451),
		strings.Repeat("7", 100000), "1/" + strings.Repeat("7", 100000), strings.Repeat("/", 100000), strings.Repeat("1/", 50000), "-" + strings.Repeat("0", 100000),
	}
	for _, s := range cases {
		got, ok := impl.TextRat(s)
		if ok || !sameRat(got, impl.Rat{}) {
			t.Errorf("TextRat(%q) = %v, %v", s, got, ok)
		}
	}
}

// P3: TextRat accepts no string but the RatText of a fraction.
func TestTextRatAcceptsOnlyRatText(t *testing.T) {
	form := regexp.MustCompile(`\A(0|-?[1-9][0-9]*)(/[1-9][0-9]*)?\z`)
	for _, s := range slices.Concat(texts("-/0146", 6), texts("/- +2a\n\xff", 4)) {
		q, want := new(big.Rat), false
		if form.MatchString(s) {
			q.SetString(s)
			want = q.RatString() == s
		}
		r, ok := impl.TextRat(s)
		if ok != want || !ok && !sameRat(r, impl.Rat{}) {
			t.Errorf("TextRat(%q) = %v, %v", s, r, ok)
		}
		if ok && (!impl.RatOk(r) || bigRat(r).Cmp(q) != 0 || impl.RatText(r) != s) {
			t.Errorf("TextRat(%q) = %v, whose RatText is %q", s, r, impl.RatText(r))
		}
	}
}

// ratLaw reckons with results that must exist, so that the laws can be written as formulas.
type ratLaw struct {
	t *testing.T
}

func (l ratLaw) of(call string, r impl.Rat, s impl.Rat) impl.Rat {
	l.t.Helper()
	got, ok := ratPairs()[call](r, s)
	if !ok {
		l.t.Errorf("%s of %v and %v is not a fraction", call, r, s)
	}
	return got
}

func (l ratLaw) same(got impl.Rat, want impl.Rat, law string, args ...impl.Rat) {
	l.t.Helper()
	checkRat(l.t, got, impl.RatOk(got), want, true, law, args...)
}

// P7: 0 and 1 are neutral, every fraction has an opposite, and every one but 0 has a reciprocal.
func TestRatNeutralAndInverse(t *testing.T) {
	l := ratLaw{t}
	zero, one := fraction(plus(), 1), fraction(plus(1), 1)
	for _, r := range manyRats() {
		neg := l.of("RatNeg", r, zero)
		l.same(l.of("RatAdd", r, zero), r, "r + 0", r)
		l.same(l.of("RatAdd", zero, r), r, "0 + r", r)
		l.same(l.of("RatSub", r, zero), r, "r - 0", r)
		l.same(l.of("RatSub", zero, r), neg, "0 - r", r)
		l.same(l.of("RatAdd", r, neg), zero, "r + (-r)", r)
		l.same(l.of("RatSub", r, r), zero, "r - r", r)
		l.same(l.of("RatMul", r, one), r, "r * 1", r)
		l.same(l.of("RatMul", one, r), r, "1 * r", r)
		l.same(l.of("RatMul", r, fraction(minus(1), 1)), neg, "r * -1", r)
		l.same(l.of("RatMul", r, zero), zero, "r * 0", r)
		l.same(l.of("RatMul", zero, r), zero, "0 * r", r)
		l.same(l.of("RatDiv", r, one), r, "r / 1", r)
		got, ok := impl.RatDiv(r, zero)
		checkRat(t, got, ok, impl.Rat{}, false, "r / 0", r)
		if impl.RatSign(r) == 0 {
			continue
		}
		reciprocal := l.of("RatDiv", one, r)
		l.same(l.of("RatMul", r, reciprocal), one, "r * (1 / r)", r)
		l.same(l.of("RatDiv", r, r), one, "r / r", r)
		l.same(l.of("RatDiv", zero, r), zero, "0 / r", r)
		l.same(l.of("RatDiv", one, reciprocal), r, "1 / (1 / r)", r)
	}
}

// P7: a subtraction takes back an addition, and a division a multiplication.
func TestRatTakesBack(t *testing.T) {
	l := ratLaw{t}
	for _, r := range smallRats() {
		for _, s := range smallRats() {
			l.same(l.of("RatSub", l.of("RatAdd", r, s), s), r, "r + s - s", r, s)
			l.same(l.of("RatAdd", l.of("RatSub", r, s), s), r, "r - s + s", r, s)
			if impl.RatSign(s) != 0 {
				l.same(l.of("RatDiv", l.of("RatMul", r, s), s), r, "r * s / s", r, s)
				l.same(l.of("RatMul", l.of("RatDiv", r, s), s), r, "r / s * s", r, s)
			}
		}
	}
}

// P7: sums and products commute, and signs come out of them, also where they are too large.
func TestRatCommutes(t *testing.T) {
	for _, r := range limitRats() {
		for _, s := range append(limitRats(), fewRats()...) {
			sum, sumOk := impl.RatAdd(r, s)
			got, ok := impl.RatAdd(s, r)
			checkRat(t, got, ok, sum, sumOk, "s + r", r, s)
			product, productOk := impl.RatMul(r, s)
			got, ok = impl.RatMul(s, r)
			checkRat(t, got, ok, product, productOk, "s * r", r, s)
			diff, diffOk := impl.RatSub(r, s)
			got, ok = impl.RatAdd(r, oppositeRat(s))
			checkRat(t, got, ok, diff, diffOk, "r + (-s)", r, s)
			got, ok = impl.RatSub(s, r)
			checkRat(t, oppositeRat(got), ok, diff, diffOk, "-(s - r)", r, s)
			got, ok = impl.RatMul(r, oppositeRat(s))
			checkRat(t, oppositeRat(got), ok, product, productOk, "-(r * (-s))", r, s)
		}
	}
}

// P7: sums and products associate, a product distributes over a sum, and a quotient of a sum is the sum of the quotients.
func TestRatAssociates(t *testing.T) {
	l := ratLaw{t}
	for _, r := range fewRats() {
		for _, s := range fewRats() {
			sum, product := l.of("RatAdd", r, s), l.of("RatMul", r, s)
			for _, q := range fewRats() {
				l.same(l.of("RatAdd", sum, q), l.of("RatAdd", r, l.of("RatAdd", s, q)), "r + s + q", r, s, q)
				l.same(l.of("RatMul", product, q), l.of("RatMul", r, l.of("RatMul", s, q)), "r * s * q", r, s, q)
				rq, sq := l.of("RatMul", r, q), l.of("RatMul", s, q)
				l.same(l.of("RatMul", sum, q), l.of("RatAdd", rq, sq), "(r + s) * q", r, s, q)
				l.same(l.of("RatMul", l.of("RatSub", r, s), q), l.of("RatSub", rq, sq), "(r - s) * q", r, s, q)
				if impl.RatSign(q) != 0 {
					l.same(l.of("RatDiv", sum, q), l.of("RatAdd", l.of("RatDiv", r, q), l.of("RatDiv", s, q)), "(r + s) / q", r, s, q)
				}
			}
		}
	}
}

// P7: the order is a total one, sums keep it, and products and quotients keep or reverse it as the sign of the other number says.
func TestRatOrder(t *testing.T) {
	l := ratLaw{t}
	for _, r := range fewRats() {
		for _, s := range fewRats() {
			order := impl.RatCmp(r, s)
			if order != -impl.RatCmp(s, r) || (order == 0) != sameRat(r, s) || order != impl.RatSign(l.of("RatSub", r, s)) || order != impl.RatCmp(oppositeRat(s), oppositeRat(r)) {
				t.Errorf("RatCmp(%v, %v) = %d", r, s, order)
			}
			for _, q := range fewRats() {
				sign := impl.RatSign(q)
				if order <= 0 && impl.RatCmp(s, q) <= 0 && impl.RatCmp(r, q) > 0 {
					t.Errorf("%v, %v, %v are not in order", r, s, q)
				}
				if got := impl.RatCmp(l.of("RatAdd", r, q), l.of("RatAdd", s, q)); got != order {
					t.Errorf("r + q and s + q of %v, %v, %v: %d", r, s, q, got)
				}
				if got := impl.RatCmp(l.of("RatMul", r, q), l.of("RatMul", s, q)); got != order*sign {
					t.Errorf("r * q and s * q of %v, %v, %v: %d", r, s, q, got)
				}
				if sign == 0 {
					continue
				}
				if got := impl.RatCmp(l.of("RatDiv", r, q), l.of("RatDiv", s, q)); got != order*sign {
					t.Errorf("r / q and s / q of %v, %v, %v: %d", r, s, q, got)
				}
			}
		}
	}
}

// An argument that is not valid gives zero values, beside whichever other argument.
func TestRatInvalid(t *testing.T) {
	others := slices.Concat(fewRats(), limitRats()[:10], badRats()[:40])
	for _, bad := range badRats() {
		if sign, text := impl.RatSign(bad), impl.RatText(bad); sign != 0 || text != "" {
			t.Errorf("RatSign and RatText of %v: %d, %q", bad, sign, text)
		}
		got, ok := impl.RatNeg(bad)
		checkRat(t, got, ok, impl.Rat{}, false, "RatNeg", bad)
		for _, other := range append(others, bad) {
			if n, m := impl.RatCmp(bad, other), impl.RatCmp(other, bad); n != 0 || m != 0 {
				t.Errorf("RatCmp of %v and %v: %d, %d", bad, other, n, m)
			}
			for name, f := range ratReckonings() {
				got, ok := f(bad, other)
				checkRat(t, got, ok, impl.Rat{}, false, name, bad, other)
				got, ok = f(other, bad)
				checkRat(t, got, ok, impl.Rat{}, false, name, other, bad)
			}
		}
	}
}

// markedRat is a fraction with marked capacity behind both parts, beside the whole memory of them and what it held at first.
type markedRat struct {
	arg    impl.Rat
	memory [][]int
	before [][]int
}

func roomyRat(r impl.Rat) markedRat {
	num, numMemory := roomySigned(r.Num)
	den, denMemory := roomy(r.Den)
	return markedRat{
		arg: fraction(num, den...), memory: [][]int{numMemory, denMemory},
		before: [][]int{slices.Clone(numMemory), slices.Clone(denMemory)},
	}
}

func (m markedRat) changed() bool {
	return !slices.EqualFunc(m.memory, m.before, slices.Equal[[]int])
}

func overwriteRat(r impl.Rat) {
	overwrite(r.Num.Mag)
	overwrite(r.Den)
}

func memoryRats() []impl.Rat {
	return slices.Concat(fewRats(), limitRats())
}

// Chapter 1: no function changes an argument or the capacity behind it, and a result shares no memory with an argument.
func TestRatLeavesArguments(t *testing.T) {
	for _, r := range slices.Concat(memoryRats(), badRats()) {
		first := roomyRat(r)
		impl.RatOk(first.arg)
		impl.RatSign(first.arg)
		impl.RatText(first.arg)
		for _, s := range append(fewRats(), limitRats()[0], r) {
			second := roomyRat(s)
			impl.RatCmp(first.arg, second.arg)
			impl.RatCmp(second.arg, first.arg)
			for name, f := range ratPairs() {
				for _, args := range [][]impl.Rat{{first.arg, second.arg}, {second.arg, first.arg}, {first.arg, first.arg}} {
					got, _ := f(args[0], args[1])
					overwriteRat(got)
				}
				if first.changed() || second.changed() {
					t.Fatalf("%s of %v and %v changed an argument or shares its memory", name, r, s)
				}
			}
		}
	}
}

// A result stays as it is when the arguments are changed afterwards, also where it equals one of them.
func TestRatResultsAreTheirOwn(t *testing.T) {
	zero, one := fraction(plus(), 1), fraction(plus(1), 1)
	for _, r := range memoryRats() {
		for _, s := range []impl.Rat{zero, fraction(impl.Signed{Mag: []int{}}, 1), one, fraction(minus(1), 1), fraction(plus(3), 7), r, oppositeRat(r)} {
			for name, f := range ratPairs() {
				first, second := roomyRat(r), roomyRat(s)
				got, ok := f(first.arg, second.arg)
				want := cloneRat(got)
				back, backOk := f(second.arg, first.arg)
				wantBack := cloneRat(back)
				overwriteRat(first.arg)
				overwriteRat(second.arg)
				checkRat(t, got, ok, want, ok, name+", whose arguments were overwritten,", r, s)
				checkRat(t, back, backOk, wantBack, backOk, name+", whose arguments were overwritten,", s, r)
			}
		}
	}
}

// ratCalls lists calls of every function that returns a fraction, with results of all kinds.
func ratCalls(r impl.Rat) map[string]func() impl.Rat {
	text := bigRat(r).RatString()
	calls := map[string]func() impl.Rat{
		"RatZero": impl.RatZero,
		"TextRat": func() impl.Rat { read, _ := impl.TextRat(text); return read },
	}
	for name, f := range ratPairs() {
		for i, s := range []impl.Rat{fraction(plus(), 1), fraction(plus(1), 1), fraction(minus(1), 1), r, oppositeRat(r)} {
			calls[name+" "+impl.IntText(i)] = func() impl.Rat { got, _ := f(r, s); return got }
		}
	}
	return calls
}

// The two parts of one result share no memory, not even behind their ends, also where they are equal; neither do the results of two calls.
func TestRatResultsAreApart(t *testing.T) {
	for _, r := range append(memoryRats(), fraction(plus(1), 1), fraction(minus(1), 1)) {
		for name, call := range ratCalls(r) {
			want := cloneRat(call())
			got, other := call(), call()
			overwrite(got.Num.Mag)
			if !slices.Equal(got.Den, want.Den) || !sameRat(other, want) {
				t.Errorf("%s of %v: overwriting the numerator changed another part or result", name, r)
			}
			got = call()
			overwrite(got.Den)
			if !sameSigned(got.Num, want.Num) || !sameRat(other, want) || !sameRat(call(), want) {
				t.Errorf("%s of %v: overwriting the denominator changed another part or result", name, r)
			}
		}
	}
}
