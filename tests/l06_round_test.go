package tests

import (
	"math"
	"math/big"
	"math/rand/v2"
	"slices"
	"testing"

	"loop.example/g00793/impl"
)

func modeNames() []string {
	return []string{"down", "up", "floor", "ceil", "halfdown", "halfup", "halfeven"}
}

// badModes holds, besides the neighbours of the modes, ints of which only the lowest or the highest bits look like a mode.
func badModes() []int {
	all := []int{-1, 7, math.MinInt, math.MinInt + 1, math.MaxInt, math.MaxInt - 1}
	for _, n := range edgeInts() {
		if n < 0 || n > 6 {
			all = append(all, n)
		}
	}
	for _, n := range []int{1 << 8, 1 << 16, 1 << 32, 1 << 62, math.MinInt} {
		for m := range 7 {
			all = append(all, n+m)
		}
	}
	return all
}

// fewBadModes are enough where every invalid mode takes the same way.
func fewBadModes() []int {
	return []int{-1, 7, math.MinInt, math.MaxInt, 1<<32 + impl.RmUp}
}

func badSteps() []int {
	return []int{0, -1, -2, -5, -1000000, 1000001, 1000002, 2000000, math.MaxInt, math.MinInt, math.MinInt + 1, 1 << 32, 1<<32 + 5, -1<<32 + 5, math.MinInt + 5}
}

// mirrored is the mode that rounds -r as m rounds r.
func mirrored(m int) int {
	switch m {
	case impl.RmFloor:
		return impl.RmCeil
	case impl.RmCeil:
		return impl.RmFloor
	}
	return m
}

func isNearest(m int) bool {
	return m == impl.RmHalfDown || m == impl.RmHalfUp || m == impl.RmHalfEven
}

// roundedBig selects one of the two adjacent integers in the words of the chapter; q is rounded.
func roundedBig(q *big.Rat, m int) *big.Int {
	// Div leaves a remainder that is not negative, so this is the smaller integer.
	low := new(big.Int).Div(q.Num(), q.Denom())
	if q.IsInt() {
		return low
	}
	high := new(big.Int).Add(low, big.NewInt(1))
	down, up := low, high
	if q.Sign() < 0 {
		down, up = high, low
	}
	even := low
	if low.Bit(0) == 1 {
		even = high
	}
	above := new(big.Rat).Sub(q, new(big.Rat).SetInt(low)).Cmp(big.NewRat(1, 2))
	switch {
	case isNearest(m) && above < 0:
		return low
	case isNearest(m) && above > 0:
		return high
	}
	return [...]*big.Int{down, up, low, high, down, up, even}[m]
}

// tiesAndNeighbours returns whole + 1/2, and the fractions that are 1 / (2 * den) below and above it, with both signs, as far as they are fractions.
func tiesAndNeighbours(whole []int, den []int) []impl.Rat {
	var all []impl.Rat
	tie := new(big.Rat).Add(new(big.Rat).SetInt(bigOf(whole)), big.NewRat(1, 2))
	gap := new(big.Rat).SetFrac(big.NewInt(1), new(big.Int).Mul(bigOf(den), big.NewInt(2)))
	for _, q := range []*big.Rat{tie, new(big.Rat).Sub(tie, gap), new(big.Rat).Add(tie, gap)} {
		if r, ok := limitedRat(q); ok {
			all = append(all, r, oppositeRat(r))
		}
	}
	return all
}

// smallQuotients are all the quotients of small numbers, each once.
func smallQuotients() []impl.Rat {
	var all []impl.Rat
	for den := int64(1); den <= 12; den++ {
		for num := int64(-40); num <= 40; num++ {
			if q := big.NewRat(num, den); q.Denom().Int64() == den {
				r, _ := limitedRat(q)
				all = append(all, r)
			}
		}
	}
	return all
}

// roundRats are fractions of all kinds: small and large ones, integers, ties of even and of odd integers, and fractions next to a tie.
func roundRats() []impl.Rat {
	all := append(manyRats(), smallQuotients()...)
	r := rand.New(rand.NewPCG(6, 12))
	wholes := [][]int{nil, {1}, {2}, {3}, {top - 1}, {top}, {0, 1}, {1, 1}, sameLimbs(8, top), sameLimbs(9, top), randomNat(r, 9), sameLimbs(16, top), powerOfBase(17), sameLimbs(17, top)}
	dens := [][]int{{3}, {5}, {6}, {10}, {top}, {0, 1}, {1, 1}, sameLimbs(9, top), randomNat(r, 9), powerOfBase(17), sameLimbs(17, top), powerOfBase(18), sameLimbs(18, 4), sameLimbs(18, top)}
	for _, whole := range wholes {
		for _, den := range dens {
			all = append(all, tiesAndNeighbours(whole, den)...)
		}
	}
	return all
}

func checkRound(t *testing.T, got impl.Signed, ok bool, want impl.Signed, wantOk bool, call string, args ...any) {
	t.Helper()
	if !sameSigned(got, want) || ok != wantOk {
		t.Errorf("%s of %v = %v, %v, not %v, %v", call, args, got, ok, want, wantOk)
	}
}

func TestModes(t *testing.T) {
	modes := []int{impl.RmDown, impl.RmUp, impl.RmFloor, impl.RmCeil, impl.RmHalfDown, impl.RmHalfUp, impl.RmHalfEven}
	if !slices.Equal(modes, []int{0, 1, 2, 3, 4, 5, 6}) {
		t.Errorf("the modes are %v", modes)
	}
}

func TestRmName(t *testing.T) {
	for m, want := range modeNames() {
		if got := impl.RmName(m); got != want {
			t.Errorf("RmName(%d) = %q, not %q", m, got, want)
		}
		if got, ok := impl.NameRm(impl.RmName(m)); got != m || !ok {
			t.Errorf("NameRm(RmName(%d)) = %d, %v", m, got, ok)
		}
	}
	for _, m := range badModes() {
		if got := impl.RmName(m); got != "" {
			t.Errorf("RmName(%d) = %q", m, got)
		}
	}
}

func TestNameRm(t *testing.T) {
	cases := []string{
		"", " ", "Down", "DOWN", "dOwn", "UP", "Up", "uP", "Floor", "FLOOR", "Ceil", "Halfdown", "halfDown", "HalfUp", "halfUp", "HALFEVEN", "halfEven",
		"half", "even", "odd", "nearest", "ceiling", "halfodd", "half-even", "half up", "half_up", "updown", "downup", "halffloor", "upup", "0", "1", "6", "-1", "7", "\x00", "\xff",
	}
	for _, name := range modeNames() {
		for size := range len(name) {
			cases = append(cases, name[:size])
		}
		for _, extra := range []string{" ", "s", "\n", "\x00", "\xff", "0", name} {
			cases = append(cases, name+extra, extra+name)
		}
		cases = append(cases, name[:1]+" "+name[1:])
	}
	for _, s := range cases {
		if m, ok := impl.NameRm(s); m != 0 || ok {
			t.Errorf("NameRm(%q) = %d, %v", s, m, ok)
		}
	}
	for m, name := range modeNames() {
		if got, ok := impl.NameRm(name); got != m || !ok {
			t.Errorf("NameRm(%q) = %d, %v, not %d", name, got, ok, m)
		}
	}
}

// P3: NameRm accepts no string but the RmName of a mode.
func TestNameRmAcceptsOnlyRmName(t *testing.T) {
	for _, s := range texts("dowunflrceiDU ", 5) {
		m, ok := impl.NameRm(s)
		if ok != slices.Contains(modeNames(), s) || ok && impl.RmName(m) != s || !ok && m != 0 {
			t.Errorf("NameRm(%q) = %d, %v", s, m, ok)
		}
	}
}

// The results are in the order of the modes: down, up, floor, ceil, halfdown, halfup, halfeven.
func TestRatRound(t *testing.T) {
	cases := []struct {
		num  int
		den  int
		want [7]int
	}{
		{-5, 2, [7]int{-2, -3, -3, -2, -2, -3, -2}}, {5, 2, [7]int{2, 3, 2, 3, 2, 3, 2}},
		{7, 2, [7]int{3, 4, 3, 4, 3, 4, 4}}, {-7, 2, [7]int{-3, -4, -4, -3, -3, -4, -4}},
		{3, 2, [7]int{1, 2, 1, 2, 1, 2, 2}}, {-3, 2, [7]int{-1, -2, -2, -1, -1, -2, -2}},
		{1, 2, [7]int{0, 1, 0, 1, 0, 1, 0}}, {-1, 2, [7]int{0, -1, -1, 0, 0, -1, 0}},
		{1, 3, [7]int{0, 1, 0, 1, 0, 0, 0}}, {-1, 3, [7]int{0, -1, -1, 0, 0, 0, 0}},
		{2, 3, [7]int{0, 1, 0, 1, 1, 1, 1}}, {-2, 3, [7]int{0, -1, -1, 0, -1, -1, -1}},
		{9, 4, [7]int{2, 3, 2, 3, 2, 2, 2}}, {-9, 4, [7]int{-2, -3, -3, -2, -2, -2, -2}},
		{11, 4, [7]int{2, 3, 2, 3, 3, 3, 3}}, {-11, 4, [7]int{-2, -3, -3, -2, -3, -3, -3}},
		{49, 100, [7]int{0, 1, 0, 1, 0, 0, 0}}, {-49, 100, [7]int{0, -1, -1, 0, 0, 0, 0}},
		{51, 100, [7]int{0, 1, 0, 1, 1, 1, 1}}, {-51, 100, [7]int{0, -1, -1, 0, -1, -1, -1}},
		{749, 500, [7]int{1, 2, 1, 2, 1, 1, 1}}, {751, 500, [7]int{1, 2, 1, 2, 2, 2, 2}}, {1249, 500, [7]int{2, 3, 2, 3, 2, 2, 2}}, {1251, 500, [7]int{2, 3, 2, 3, 3, 3, 3}},
		{1, 1000000000, [7]int{0, 1, 0, 1, 0, 0, 0}}, {-999999999, 1000000000, [7]int{0, -1, -1, 0, -1, -1, -1}},
		{0, 1, [7]int{}}, {1, 1, [7]int{1, 1, 1, 1, 1, 1, 1}}, {-1, 1, [7]int{-1, -1, -1, -1, -1, -1, -1}},
		{6, 1, [7]int{6, 6, 6, 6, 6, 6, 6}}, {-7, 1, [7]int{-7, -7, -7, -7, -7, -7, -7}},
		{1999999999, 2, [7]int{999999999, 1000000000, 999999999, 1000000000, 999999999, 1000000000, 1000000000}},
		{-1999999999, 2, [7]int{-999999999, -1000000000, -1000000000, -999999999, -999999999, -1000000000, -1000000000}},
		{2000000001, 2, [7]int{1000000000, 1000000001, 1000000000, 1000000001, 1000000000, 1000000001, 1000000000}},
	}
	for _, c := range cases {
		r, _ := limitedRat(big.NewRat(int64(c.num), int64(c.den)))
		for m, want := range c.want {
			got, ok := impl.RatRound(r, m)
			checkRound(t, got, ok, limitedSigned(big.NewInt(int64(want))), true, "RatRound", c.num, c.den, m)
		}
	}
}

// A numerator of exactly MaxRat limbs, where rounding carries into one more limb of the integer, and where it does not.
func TestRatRoundAtTheLimit(t *testing.T) {
	greatest, middle := plus(sameLimbs(18, top)...), plus(append(sameLimbs(17, top), 1)...)
	nines, power := plus(sameLimbs(17, top)...), plus(powerOfBase(18)...)
	halfLow, halfHigh := plus(append(sameLimbs(17, top), 499999999)...), plus(append(make([]int, 17), 500000000)...)
	third := plus(sameLimbs(18, 333333333)...)
	zero, one := plus(), plus(1)
	cases := []struct {
		r    impl.Rat
		want [7]impl.Signed
	}{
		{fraction(middle, 2), [7]impl.Signed{nines, power, nines, power, nines, power, power}},
		{fraction(opposite(middle), 2), [7]impl.Signed{opposite(nines), opposite(power), opposite(power), opposite(nines), opposite(nines), opposite(power), opposite(power)}},
		{fraction(greatest, 2), [7]impl.Signed{halfLow, halfHigh, halfLow, halfHigh, halfLow, halfHigh, halfHigh}},
		{fraction(greatest, 1), [7]impl.Signed{greatest, greatest, greatest, greatest, greatest, greatest, greatest}},
		{fraction(opposite(power), 1), [7]impl.Signed{opposite(power), opposite(power), opposite(power), opposite(power), opposite(power), opposite(power), opposite(power)}},
		{fraction(plus(append([]int{top - 1}, sameLimbs(17, top)...)...), 3), [7]impl.Signed{plus(append([]int{333333332}, sameLimbs(17, 333333333)...)...), third, plus(append([]int{333333332}, sameLimbs(17, 333333333)...)...), third, third, third, third}},
		{fraction(greatest, 0, 1), [7]impl.Signed{nines, power, nines, power, power, power, power}},
		{fraction(greatest, powerOfBase(18)...), [7]impl.Signed{plus(top), plus(0, 1), plus(top), plus(0, 1), plus(0, 1), plus(0, 1), plus(0, 1)}},
		{fraction(power, sameLimbs(18, top)...), [7]impl.Signed{zero, one, zero, one, zero, zero, zero}},
		{fraction(minus(1), sameLimbs(18, top)...), [7]impl.Signed{zero, minus(1), minus(1), zero, zero, zero, zero}},
		{fraction(halfLow, sameLimbs(18, top)...), [7]impl.Signed{zero, one, zero, one, zero, zero, zero}},
		{fraction(halfHigh, sameLimbs(18, top)...), [7]impl.Signed{zero, one, zero, one, one, one, one}},
		{fraction(opposite(halfLow), sameLimbs(18, top)...), [7]impl.Signed{zero, minus(1), minus(1), zero, zero, zero, zero}},
		{fraction(opposite(halfHigh), sameLimbs(18, top)...), [7]impl.Signed{zero, minus(1), minus(1), zero, minus(1), minus(1), minus(1)}},
	}
	for _, c := range cases {
		for m, want := range c.want {
			got, ok := impl.RatRound(c.r, m)
			checkRound(t, got, ok, want, true, "RatRound", c.r, m)
		}
	}
}

func TestRatRoundLikeBig(t *testing.T) {
	for _, r := range roundRats() {
		for m := range 7 {
			got, ok := impl.RatRound(r, m)
			checkRound(t, got, ok, limitedSigned(roundedBig(bigRat(r), m)), true, "RatRound", r, m)
		}
	}
}

// distance is |r - x|.
func distance(r impl.Rat, x impl.Signed) *big.Rat {
	gap := new(big.Rat).Sub(bigRat(r), new(big.Rat).SetInt(bigSigned(x)))
	return gap.Abs(gap)
}

// P6: a rounded value differs by less than one, by at most one half in the nearest modes, and not at all from an integer.
func TestRatRoundDistance(t *testing.T) {
	for _, r := range roundRats() {
		for m := range 7 {
			x, ok := impl.RatRound(r, m)
			gap := distance(r, x)
			if !ok || !impl.IntOk(x) || gap.Cmp(big.NewRat(1, 1)) >= 0 {
				t.Errorf("RatRound(%v, %d) = %v, %v", r, m, x, ok)
			}
			if isNearest(m) && gap.Cmp(big.NewRat(1, 2)) > 0 {
				t.Errorf("RatRound(%v, %d) = %v is not the nearest integer", r, m, x)
			}
			if bigRat(r).IsInt() && gap.Sign() != 0 {
				t.Errorf("RatRound(%v, %d) = %v is another integer", r, m, x)
			}
		}
	}
}

// P6: negation mirrors the direction of rounding, and no mode goes below RmFloor or above RmCeil.
func TestRatRoundMirrors(t *testing.T) {
	for _, r := range roundRats() {
		low, lowOk := impl.RatRound(r, impl.RmFloor)
		high, highOk := impl.RatRound(r, impl.RmCeil)
		for m := range 7 {
			x, ok := impl.RatRound(r, m)
			if !ok || !lowOk || !highOk || impl.IntCmp(x, low) < 0 || impl.IntCmp(x, high) > 0 {
				t.Errorf("RatRound(%v, %d) = %v, %v is not from %v to %v", r, m, x, ok, low, high)
			}
			back, backOk := impl.RatRound(oppositeRat(r), mirrored(m))
			checkRound(t, back, backOk, opposite(x), true, "RatRound, mirrored,", r, m)
		}
	}
}

func TestRatFloor(t *testing.T) {
	cases := []struct {
		r    impl.Rat
		want impl.Signed
	}{
		{fraction(plus(), 1), plus()}, {fraction(impl.Signed{Mag: []int{}}, 1), plus()}, {fraction(plus(7), 1), plus(7)}, {fraction(minus(7), 1), minus(7)},
		{fraction(plus(1), 3), plus()}, {fraction(minus(1), 3), minus(1)}, {fraction(plus(1), 2), plus()}, {fraction(minus(1), 2), minus(1)},
		{fraction(plus(2), 3), plus()}, {fraction(minus(2), 3), minus(1)}, {fraction(plus(5), 2), plus(2)}, {fraction(minus(5), 2), minus(3)}, {fraction(minus(7), 2), minus(4)},
		{fraction(plus(1, 1), 0, 1), plus(1)}, {fraction(minus(1, 1), 0, 1), minus(2)}, {fraction(minus(top, 1), 2), minus(0, 1)}, {fraction(plus(top, 1), 2), plus(top)},
		{fraction(minus(1), sameLimbs(18, top)...), minus(1)}, {fraction(plus(1), sameLimbs(18, top)...), plus()},
		{fraction(minus(sameLimbs(18, top)...), 0, 1), minus(powerOfBase(18)...)}, {fraction(plus(sameLimbs(18, top)...), 0, 1), plus(sameLimbs(17, top)...)},
		{fraction(minus(sameLimbs(18, top)...), powerOfBase(18)...), minus(0, 1)}, {fraction(minus(powerOfBase(18)...), 1), minus(powerOfBase(18)...)},
	}
	for _, c := range cases {
		got, ok := impl.RatFloor(c.r)
		checkRound(t, got, ok, c.want, true, "RatFloor", c.r)
	}
	for _, r := range roundRats() {
		got, ok := impl.RatFloor(r)
		checkRound(t, got, ok, limitedSigned(roundedBig(bigRat(r), impl.RmFloor)), true, "RatFloor", r)
	}
}

func TestRatWholeAndHalf(t *testing.T) {
	cases := []struct {
		r      impl.Rat
		isInt  bool
		isHalf bool
	}{
		{fraction(plus(), 1), true, false}, {fraction(impl.Signed{Mag: []int{}}, 1), true, false}, {fraction(plus(1), 1), true, false}, {fraction(minus(1), 1), true, false},
		{fraction(plus(2), 1), true, false}, {fraction(minus(sameLimbs(18, top)...), 1), true, false}, {fraction(plus(powerOfBase(18)...), 1), true, false},
		{fraction(plus(1), 2), false, true}, {fraction(minus(1), 2), false, true}, {fraction(plus(5), 2), false, true}, {fraction(minus(7), 2), false, true},
		{fraction(plus(sameLimbs(18, top)...), 2), false, true}, {fraction(minus(1, 1), 2), false, true},
		{fraction(plus(1), 3), false, false}, {fraction(minus(2), 3), false, false}, {fraction(plus(1), 4), false, false}, {fraction(minus(3), 4), false, false}, {fraction(plus(9), 10), false, false},
		{fraction(plus(1), 0, 1), false, false}, {fraction(minus(3), 1, 1), false, false}, {fraction(plus(3), 2, 1), false, false},
		{fraction(plus(sameLimbs(18, top)...), powerOfBase(18)...), false, false}, {fraction(minus(powerOfBase(18)...), sameLimbs(18, top)...), false, false},
	}
	for _, c := range cases {
		if isInt, isHalf := impl.RatWhole(c.r), impl.RatHalf(c.r); isInt != c.isInt || isHalf != c.isHalf {
			t.Errorf("RatWhole(%v) = %v, RatHalf = %v", c.r, isInt, isHalf)
		}
	}
	for _, r := range roundRats() {
		q := bigRat(r)
		if got := impl.RatWhole(r); got != q.IsInt() {
			t.Errorf("RatWhole(%v) = %v", r, got)
		}
		twice := new(big.Rat).Mul(q, big.NewRat(2, 1))
		if got := impl.RatHalf(r); got != (twice.IsInt() && !q.IsInt()) {
			t.Errorf("RatHalf(%v) = %v", r, got)
		}
	}
}

// The remainders are in the order of the modes, as are the rounded values of TestRatRound, in multiples of 1 / den.
func TestRatRest(t *testing.T) {
	cases := []struct {
		num  int
		den  int
		want [7]int
	}{
		{7, 4, [7]int{3, -1, 3, -1, -1, -1, -1}}, {-7, 4, [7]int{-3, 1, 1, -3, 1, 1, 1}}, {5, 4, [7]int{1, -3, 1, -3, 1, 1, 1}}, {-5, 4, [7]int{-1, 3, 3, -1, -1, -1, -1}},
		{5, 2, [7]int{1, -1, 1, -1, 1, -1, 1}}, {-5, 2, [7]int{-1, 1, 1, -1, -1, 1, -1}}, {7, 2, [7]int{1, -1, 1, -1, 1, -1, -1}}, {-7, 2, [7]int{-1, 1, 1, -1, -1, 1, 1}},
		{1, 2, [7]int{1, -1, 1, -1, 1, -1, 1}}, {-1, 2, [7]int{-1, 1, 1, -1, -1, 1, -1}}, {1, 3, [7]int{1, -2, 1, -2, 1, 1, 1}}, {-2, 3, [7]int{-2, 1, 1, -2, 1, 1, 1}},
		{0, 1, [7]int{}}, {1, 1, [7]int{}}, {-7, 1, [7]int{}}, {2000000000, 1, [7]int{}},
	}
	for _, c := range cases {
		q := big.NewRat(int64(c.num), int64(c.den))
		r, _ := limitedRat(q)
		for m, want := range c.want {
			x, rest, ok := impl.RatRest(r, m)
			checkRound(t, x, ok, limitedSigned(roundedBig(q, m)), true, "RatRest", c.num, c.den, m)
			wantRest, _ := limitedRat(big.NewRat(int64(want), int64(c.den)))
			checkRat(t, rest, ok, wantRest, true, "the remainder of RatRest in mode "+impl.RmName(m), r)
		}
	}
}

// The rounded value and the remainder are those of math/big, and add up to the fraction.
func TestRatRestLikeBig(t *testing.T) {
	for _, r := range roundRats() {
		for m := range 7 {
			want := roundedBig(bigRat(r), m)
			wantRest, restOk := limitedRat(new(big.Rat).Sub(bigRat(r), new(big.Rat).SetInt(want)))
			x, rest, ok := impl.RatRest(r, m)
			checkRound(t, x, ok, limitedSigned(want), restOk, "RatRest", r, m)
			checkRat(t, rest, ok, wantRest, restOk, "the remainder of RatRest in mode "+impl.RmName(m), r)
			whole, _ := impl.RatInt(x)
			sum, sumOk := impl.RatAdd(whole, rest)
			checkRat(t, sum, sumOk, r, true, "x + (r - x)", r)
		}
	}
}

// The results are in the order of the modes.
func TestRoundTo(t *testing.T) {
	cases := []struct {
		x    int
		step int
		want [7]int
	}{
		{1237, 5, [7]int{1235, 1240, 1235, 1240, 1235, 1235, 1235}}, {-1237, 5, [7]int{-1235, -1240, -1240, -1235, -1235, -1235, -1235}},
		{1238, 5, [7]int{1235, 1240, 1235, 1240, 1240, 1240, 1240}}, {-1238, 5, [7]int{-1235, -1240, -1240, -1235, -1240, -1240, -1240}},
		{25, 10, [7]int{20, 30, 20, 30, 20, 30, 20}}, {-25, 10, [7]int{-20, -30, -30, -20, -20, -30, -20}},
		{35, 10, [7]int{30, 40, 30, 40, 30, 40, 40}}, {-35, 10, [7]int{-30, -40, -40, -30, -30, -40, -40}},
		{5, 10, [7]int{0, 10, 0, 10, 0, 10, 0}}, {-5, 10, [7]int{0, -10, -10, 0, 0, -10, 0}}, {4, 10, [7]int{0, 10, 0, 10, 0, 0, 0}}, {-6, 10, [7]int{0, -10, -10, 0, -10, -10, -10}},
		{15, 6, [7]int{12, 18, 12, 18, 12, 18, 12}}, {1, 2, [7]int{0, 2, 0, 2, 0, 2, 0}}, {3, 2, [7]int{2, 4, 2, 4, 2, 4, 4}}, {-3, 2, [7]int{-2, -4, -4, -2, -2, -4, -4}},
		{0, 1, [7]int{}}, {0, 5, [7]int{}}, {0, 1000000, [7]int{}}, {7, 1, [7]int{7, 7, 7, 7, 7, 7, 7}}, {-7, 1, [7]int{-7, -7, -7, -7, -7, -7, -7}},
		{20, 5, [7]int{20, 20, 20, 20, 20, 20, 20}}, {-20, 5, [7]int{-20, -20, -20, -20, -20, -20, -20}}, {5, 5, [7]int{5, 5, 5, 5, 5, 5, 5}},
		{3000000, 1000000, [7]int{3000000, 3000000, 3000000, 3000000, 3000000, 3000000, 3000000}},
		{2500000, 1000000, [7]int{2000000, 3000000, 2000000, 3000000, 2000000, 3000000, 2000000}}, {-3500000, 1000000, [7]int{-3000000, -4000000, -4000000, -3000000, -3000000, -4000000, -4000000}},
		{1, 1000000, [7]int{0, 1000000, 0, 1000000, 0, 0, 0}}, {-999999, 1000000, [7]int{0, -1000000, -1000000, 0, -1000000, -1000000, -1000000}},
		{999999999, 1000000, [7]int{999000000, 1000000000, 999000000, 1000000000, 1000000000, 1000000000, 1000000000}},
		{1000000, 999999, [7]int{999999, 1999998, 999999, 1999998, 999999, 999999, 999999}},
	}
	for _, c := range cases {
		x := limitedSigned(big.NewInt(int64(c.x)))
		for m, want := range c.want {
			got, ok := impl.RoundTo(x, c.step, m)
			checkRound(t, got, ok, limitedSigned(big.NewInt(int64(want))), true, "RoundTo", c.x, c.step, m)
		}
	}
}

// The result has at most one limb more than x.
func TestRoundToAtTheLimit(t *testing.T) {
	greatest, longer, power := plus(sameLimbs(18, top)...), plus(powerOfBase(19)...), plus(powerOfBase(18)...)
	below := plus(append([]int{999000000}, sameLimbs(17, top)...)...)
	tie := plus(append([]int{999500000}, sameLimbs(17, top)...)...)
	high := plus(append([]int{1000000}, powerOfBase(18)[1:]...)...)
	cases := []struct {
		x    impl.Signed
		step int
		want [7]impl.Signed
	}{
		{greatest, 1, [7]impl.Signed{greatest, greatest, greatest, greatest, greatest, greatest, greatest}},
		{greatest, 3, [7]impl.Signed{greatest, greatest, greatest, greatest, greatest, greatest, greatest}},
		{greatest, 1000000, [7]impl.Signed{below, longer, below, longer, longer, longer, longer}},
		{tie, 1000000, [7]impl.Signed{below, longer, below, longer, below, longer, longer}},
		{opposite(greatest), 1000000, [7]impl.Signed{opposite(below), opposite(longer), opposite(longer), opposite(below), opposite(longer), opposite(longer), opposite(longer)}},
		{greatest, 2, [7]impl.Signed{
			plus(append([]int{top - 1}, sameLimbs(17, top)...)...), longer, plus(append([]int{top - 1}, sameLimbs(17, top)...)...), longer,
			plus(append([]int{top - 1}, sameLimbs(17, top)...)...), longer, longer,
		}},
		{power, 1000000, [7]impl.Signed{power, power, power, power, power, power, power}},
		{plus(append([]int{1}, powerOfBase(18)[1:]...)...), 1000000, [7]impl.Signed{power, high, power, high, power, power, power}},
	}
	for _, c := range cases {
		for m, want := range c.want {
			got, ok := impl.RoundTo(c.x, c.step, m)
			checkRound(t, got, ok, want, true, "RoundTo", c.x, c.step, m)
		}
	}
}

func goodSteps() []int {
	return []int{1, 2, 3, 4, 5, 6, 7, 10, 50, 100, 500, 65536, 99999, 500000, 999999, 1000000}
}

// stepInts are the integers that RoundTo accepts, small ones and of up to MaxRat limbs.
func stepInts() []impl.Signed {
	var all []impl.Signed
	for n := int64(-25); n <= 25; n++ {
		all = append(all, limitedSigned(big.NewInt(n)), limitedSigned(big.NewInt(n*250000)), limitedSigned(big.NewInt(n*50+n%2)))
	}
	r := rand.New(rand.NewPCG(7, 12))
	for n := 1; n <= 18; n++ {
		all = append(all, bothSigns([][]int{randomNat(r, n), sameLimbs(n, top), powerOfBase(n)})...)
	}
	return all
}

func TestRoundToLikeBig(t *testing.T) {
	for _, x := range stepInts() {
		for _, step := range goodSteps() {
			quotient := new(big.Rat).SetFrac(bigSigned(x), big.NewInt(int64(step)))
			for m := range 7 {
				want := new(big.Int).Mul(roundedBig(quotient, m), big.NewInt(int64(step)))
				got, ok := impl.RoundTo(x, step, m)
				checkRound(t, got, ok, limitedSigned(want), true, "RoundTo", x, step, m)
			}
		}
	}
}

// P6: rounding to a step yields a multiple of the step, mirrored by negation, and never below RmFloor's or above RmCeil's.
func TestRoundToLaws(t *testing.T) {
	for _, x := range stepInts() {
		for _, step := range goodSteps() {
			low, _ := impl.RoundTo(x, step, impl.RmFloor)
			high, _ := impl.RoundTo(x, step, impl.RmCeil)
			for m := range 7 {
				got, ok := impl.RoundTo(x, step, m)
				if !ok || impl.IntCmp(got, low) < 0 || impl.IntCmp(got, high) > 0 {
					t.Errorf("RoundTo(%v, %d, %d) = %v, %v is not from %v to %v", x, step, m, got, ok, low, high)
				}
				checkMultiple(t, got, x, step, m)
				back, backOk := impl.RoundTo(opposite(x), step, mirrored(m))
				checkRound(t, back, backOk, opposite(got), true, "RoundTo, mirrored,", x, step, m)
			}
		}
	}
}

// checkMultiple allows less than the step as the difference, and at most half of it in the nearest modes.
func checkMultiple(t *testing.T, got impl.Signed, x impl.Signed, step int, m int) {
	t.Helper()
	size := big.NewInt(int64(step))
	gap := new(big.Int).Sub(bigSigned(x), bigSigned(got))
	gap.Abs(gap)
	if new(big.Int).Rem(bigSigned(got), size).Sign() != 0 || gap.Cmp(size) >= 0 {
		t.Errorf("RoundTo(%v, %d, %d) = %v", x, step, m, got)
	}
	if isNearest(m) && gap.Lsh(gap, 1).Cmp(size) > 0 {
		t.Errorf("RoundTo(%v, %d, %d) = %v is not the nearest multiple", x, step, m, got)
	}
}

// checkNotRounded holds what all functions of a fraction and a mode return for an argument that is not valid.
func checkNotRounded(t *testing.T, r impl.Rat, m int) {
	t.Helper()
	got, ok := impl.RatRound(r, m)
	checkRound(t, got, ok, impl.Signed{}, false, "RatRound", r, m)
	got, rest, ok := impl.RatRest(r, m)
	checkRound(t, got, ok, impl.Signed{}, false, "RatRest", r, m)
	checkRat(t, rest, ok, impl.Rat{}, false, "the remainder of RatRest in mode "+impl.IntText(m), r)
}

func TestRoundInvalidFractions(t *testing.T) {
	for _, bad := range badRats() {
		for _, m := range append(fewBadModes(), 0, 1, 2, 3, 4, 5, 6) {
			checkNotRounded(t, bad, m)
		}
		got, ok := impl.RatFloor(bad)
		checkRound(t, got, ok, impl.Signed{}, false, "RatFloor", bad)
		if impl.RatWhole(bad) || impl.RatHalf(bad) {
			t.Errorf("RatWhole(%v) = %v, RatHalf = %v", bad, impl.RatWhole(bad), impl.RatHalf(bad))
		}
	}
}

// A fraction that would be whole or a half if it were reduced or shorter is not valid either.
func TestRoundInvalidWholesAndHalves(t *testing.T) {
	bad := []impl.Rat{
		fraction(plus(4), 2), fraction(plus(), 2), fraction(impl.Signed{Neg: true}, 1), fraction(impl.Signed{Neg: true}, 2), fraction(plus(2), 4), fraction(minus(10), 20),
		fraction(plus(powerOfBase(19)...), 1), fraction(minus(sameLimbs(19, top)...), 2), fraction(plus(1, 0), 1), fraction(plus(1), 1, 0), fraction(plus(1), 2, 0), fraction(plus(-1), 2), fraction(plus(impl.Base), 1),
	}
	for _, r := range bad {
		if impl.RatWhole(r) || impl.RatHalf(r) {
			t.Errorf("RatWhole(%v) = %v, RatHalf = %v", r, impl.RatWhole(r), impl.RatHalf(r))
		}
		checkNotRounded(t, r, impl.RmDown)
	}
}

// An invalid mode is one also where the mode would not matter.
func TestRoundInvalidModes(t *testing.T) {
	rats := []impl.Rat{fraction(plus(), 1), fraction(plus(3), 1), fraction(minus(3), 1), fraction(plus(1), 2), fraction(minus(5), 2), fraction(plus(1), 3), fraction(plus(sameLimbs(18, top)...), 0, 1)}
	for _, m := range badModes() {
		for _, r := range rats {
			checkNotRounded(t, r, m)
			for _, step := range []int{1, 2, 1000000} {
				got, ok := impl.RoundTo(r.Num, step, m)
				checkRound(t, got, ok, impl.Signed{}, false, "RoundTo", r.Num, step, m)
			}
		}
	}
}

func TestRoundToInvalid(t *testing.T) {
	long := bothSigns([][]int{powerOfBase(19), sameLimbs(19, top), sameLimbs(19, 1), sameLimbs(20, 5), powerOfBase(49), sameLimbs(50, top)})
	for _, bad := range append(long, badInts()...) {
		for _, step := range append(goodSteps(), badSteps()...) {
			for _, m := range []int{-1, 0, 1, 2, 3, 4, 5, 6, 7} {
				got, ok := impl.RoundTo(bad, step, m)
				checkRound(t, got, ok, impl.Signed{}, false, "RoundTo", bad, step, m)
			}
		}
	}
	for _, step := range badSteps() {
		for _, x := range []impl.Signed{plus(), plus(1), minus(1), plus(5), minus(0, 1), plus(sameLimbs(18, top)...), minus(powerOfBase(18)...)} {
			for _, m := range []int{-1, 0, 1, 2, 3, 4, 5, 6, 7} {
				got, ok := impl.RoundTo(x, step, m)
				checkRound(t, got, ok, impl.Signed{}, false, "RoundTo", x, step, m)
			}
		}
	}
}

// ratRoundings lists the functions that make an integer of a fraction and a mode; RoundTo takes the numerator.
func ratRoundings() map[string]func(impl.Rat, int) impl.Signed {
	calls := map[string]func(impl.Rat, int) impl.Signed{
		"RatRound":            func(r impl.Rat, m int) impl.Signed { x, _ := impl.RatRound(r, m); return x },
		"RatFloor":            func(r impl.Rat, _ int) impl.Signed { x, _ := impl.RatFloor(r); return x },
		"RatRest":             func(r impl.Rat, m int) impl.Signed { x, _, _ := impl.RatRest(r, m); return x },
		"RatRest's numerator": func(r impl.Rat, m int) impl.Signed { _, rest, _ := impl.RatRest(r, m); return rest.Num },
		"RatRest's denominator": func(r impl.Rat, m int) impl.Signed {
			_, rest, _ := impl.RatRest(r, m)
			return impl.Signed{Mag: rest.Den}
		},
	}
	for _, step := range []int{0, 1, 5, 1000000} {
		calls["RoundTo "+impl.IntText(step)] = func(r impl.Rat, m int) impl.Signed { x, _ := impl.RoundTo(r.Num, step, m); return x }
	}
	return calls
}

func roundMemoryRats() []impl.Rat {
	return append(memoryRats(), fraction(plus(1), 2), fraction(minus(1), 2), fraction(plus(1), 1), fraction(minus(7), 2), fraction(plus(3000000), 1))
}

// Chapter 1: no function changes an argument or the capacity behind it, and a result shares no memory with an argument.
func TestRoundLeavesArguments(t *testing.T) {
	for _, r := range append(roundMemoryRats(), badRats()...) {
		arg := roomyRat(r)
		impl.RatWhole(arg.arg)
		impl.RatHalf(arg.arg)
		for m := -1; m <= 7; m++ {
			for name, f := range ratRoundings() {
				overwrite(f(arg.arg, m).Mag)
				if arg.changed() {
					t.Fatalf("%s of %v in mode %d changed its argument or shares its memory", name, r, m)
				}
			}
		}
	}
}

// A result stays as it is when the arguments are changed afterwards, also where it equals one of them; two calls share no memory either.
func TestRoundResultsAreTheirOwn(t *testing.T) {
	for _, r := range roundMemoryRats() {
		for m := range 7 {
			for name, f := range ratRoundings() {
				arg := roomyRat(r)
				got, other := f(arg.arg, m), f(arg.arg, m)
				want := cloneSigned(got)
				overwrite(other.Mag)
				overwriteRat(arg.arg)
				if !sameSigned(got, want) || !sameSigned(f(r, m), want) {
					t.Fatalf("%s of %v in mode %d shares memory with an argument or another result", name, r, m)
				}
			}
		}
	}
}

// The rounded value, and the numerator and the denominator of the remainder, share no memory, not even behind their ends.
func TestRatRestResultsAreApart(t *testing.T) {
	for _, r := range roundMemoryRats() {
		for m := range 7 {
			want, wantRest, _ := impl.RatRest(r, m)
			want, wantRest = cloneSigned(want), cloneRat(wantRest)
			for place := range 3 {
				x, rest, _ := impl.RatRest(r, m)
				parts := [][]int{x.Mag, rest.Num.Mag, rest.Den}
				overwrite(parts[place])
				for i, part := range [][]int{want.Mag, wantRest.Num.Mag, wantRest.Den} {
					if i != place && !slices.Equal(parts[i], part) {
						t.Fatalf("RatRest of %v in mode %d: overwriting part %d changed part %d", r, m, place, i)
					}
				}
			}
		}
	}
}
