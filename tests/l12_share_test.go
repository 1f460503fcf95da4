package tests

import (
	"math"
	"math/big"
	"math/rand/v2"
	"slices"
	"strings"
	"testing"

	"loop.example/g00793/impl"
)

func ones(n int) []int { return slices.Repeat([]int{1}, n) }

// allBut returns n weights of 0 and one other at the place.
func allBut(n int, place int, weight int) []int {
	w := make([]int, n)
	w[place] = weight
	return w
}

// countingUp has the weights 1 to 30.
func countingUp() []int {
	var w []int
	for n := range 30 {
		w = append(w, n+1)
	}
	return w
}

// fewWeights are enough beside other arguments.
func fewWeights() [][]int {
	return [][]int{{1}, {1, 1}, {1, 0, 3}, {2, 1, 1, 2}, {0, 0, 5}, {impl.MaxWeight, 1}, ones(30), countingUp()}
}

func goodWeights() [][]int {
	most := impl.MaxWeight
	all := [][]int{
		{7}, {most}, {1, 2}, {2, 1}, {0, 1}, {1, 0}, {5, 5}, {1, 1, 1}, {3, 3, 3}, {1, 2, 3}, {3, 2, 1}, {0, 5, 0}, {5, 0, 0}, {2, 0, 1, 0}, {1, 1, 2, 2, 1, 1}, {0, 1, 0, 1, 0, 1, 1},
		{1, most}, {most, most}, {most, most - 1, most}, {1, most - 1}, {most - 1, 1}, {most, 0, 0, 1}, {1, 10, 100, 1000, 10000, 100000, 1000000, 10000000, 100000000, most}, {999999937, 999999929, 999999893},
		slices.Repeat([]int{most}, 30), append(ones(29), most), append([]int{most}, ones(29)...), slices.Repeat([]int{0, 1, 2}, 10), allBut(30, 0, 1), allBut(30, 15, 3), allBut(30, 29, most),
	}
	return append(fewWeights(), all...)
}

// badWeights are wrong in one thing each, and the last ones in several.
func badWeights() [][]int {
	most := impl.MaxWeight
	all := [][]int{nil, {}, {0}, {0, 0}, make([]int, 30), ones(31), make([]int, 31), allBut(31, 30, 1), ones(32), ones(1000), slices.Repeat([]int{most}, 31)}
	for _, weight := range []int{-1, -2, -most, most + 1, 2 * most, 1 << 32, 1<<32 + 1, math.MaxInt, math.MinInt, math.MinInt + 1} {
		all = append(all, []int{weight}, []int{weight, 1}, []int{1, weight}, []int{0, weight, 5}, append(ones(29), weight), append([]int{weight}, ones(29)...), []int{weight, weight})
	}
	return append(all, []int{-1, 2, -1, 2}, []int{most + 1, -1}, []int{math.MaxInt, math.MaxInt, 2}, []int{math.MinInt, math.MaxInt, 2}, slices.Repeat([]int{-1}, 40))
}

func fewBadWeights() [][]int {
	return [][]int{nil, {}, {0, 0, 0}, ones(31), {5, -1}, {impl.MaxWeight + 1, 1}, {math.MaxInt, math.MaxInt, 3}}
}

func totalOf(w []int) *big.Int {
	total := new(big.Int)
	for _, weight := range w {
		total.Add(total, big.NewInt(int64(weight)))
	}
	return total
}

// bigFair is x * w[i] / (sum of w).
func bigFair(x impl.Signed, w []int, i int) *big.Rat {
	product := new(big.Int).Mul(bigSigned(x), big.NewInt(int64(w[i])))
	return new(big.Rat).SetFrac(product, totalOf(w))
}

// lowBig is a fair share rounded toward 0, and the magnitude of what is discarded of it.
func lowBig(fair *big.Rat) (*big.Int, *big.Rat) {
	low := roundedBig(fair, impl.RmDown)
	rest := new(big.Rat).Sub(fair, new(big.Rat).SetInt(low))
	return low, rest.Abs(rest)
}

// neediest looks for the largest remainder; of equal ones it takes the first.
func neediest(rests []*big.Rat) int {
	best := 0
	for i, rest := range rests {
		if rest.Cmp(rests[best]) > 0 {
			best = i
		}
	}
	return best
}

// bigShares deals out the missing units one by one, for arguments that are valid. A part that has received one is out of the running.
func bigShares(x impl.Signed, w []int) ([]impl.Signed, bool) {
	missing := bigSigned(x)
	var lows []*big.Int
	var rests []*big.Rat
	for i := range w {
		fair := bigFair(x, w, i)
		if _, ok := limitedRat(fair); !ok {
			return nil, false
		}
		low, rest := lowBig(fair)
		lows, rests = append(lows, low), append(rests, rest)
		missing.Sub(missing, low)
	}
	unit := big.NewInt(int64(missing.Sign()))
	for ; missing.Sign() != 0; missing.Sub(missing, unit) {
		place := neediest(rests)
		lows[place].Add(lows[place], unit)
		rests[place] = big.NewRat(-1, 1)
	}
	var parts []impl.Signed
	for _, low := range lows {
		parts = append(parts, limitedSigned(low))
	}
	return parts, true
}

func integers(l ...int64) []impl.Signed {
	var all []impl.Signed
	for _, n := range l {
		all = append(all, limitedSigned(big.NewInt(n)))
	}
	return all
}

func oppositeInts(l []impl.Signed) []impl.Signed {
	var back []impl.Signed
	for _, x := range l {
		back = append(back, opposite(x))
	}
	return back
}

// splitInts are of all lengths up to those of which no weights make fractions any more.
func splitInts() []impl.Signed {
	var nats [][]int
	for n := range 71 {
		nats = append(nats, limbsOf(big.NewInt(int64(n))))
	}
	nats = append(nats, []int{100}, []int{1000}, []int{999983}, []int{top}, []int{0, 1}, []int{29, 30}, []int{top, top}, powerOfBase(4), sameLimbs(4, top))
	r := rand.New(rand.NewPCG(12, 13))
	for limbs := 1; limbs <= 21; limbs++ {
		nats = append(nats, randomNat(r, limbs))
	}
	return bothSigns(nats)
}

// checkFair takes a nil where there is no fair share.
func checkFair(t *testing.T, x impl.Signed, w []int, i int, q *big.Rat) {
	t.Helper()
	got, ok := impl.FairShare(x, w, i)
	checkFraction(t, got, ok, q, "FairShare", x, w, i)
}

// checkSplit also asks SharesOk about the parts.
func checkSplit(t *testing.T, x impl.Signed, w []int, want []impl.Signed, wantOk bool) {
	t.Helper()
	got, ok := impl.Shares(x, w)
	if ok != wantOk || !slices.EqualFunc(got, want, sameSigned) {
		t.Errorf("Shares(%v, %v) = %v, %v, not %v, %v", x, w, got, ok, want, wantOk)
	}
	if said := impl.SharesOk(x, w, want); said != wantOk {
		t.Errorf("SharesOk(%v, %v, %v) = %v", x, w, want, said)
	}
}

func checkSplitBig(t *testing.T, x impl.Signed, w []int) {
	t.Helper()
	want, wantOk := bigShares(x, w)
	checkSplit(t, x, w, want, wantOk)
}

func TestShareConstants(t *testing.T) {
	if impl.MaxShares != 30 || impl.MaxWeight != 1000000000 {
		t.Errorf("MaxShares = %d, MaxWeight = %d", impl.MaxShares, impl.MaxWeight)
	}
}

func TestWeightsOk(t *testing.T) {
	for _, w := range goodWeights() {
		if !impl.WeightsOk(w) {
			t.Errorf("WeightsOk(%v) = false", w)
		}
	}
	for _, w := range slices.Concat(badWeights(), fewBadWeights()) {
		if impl.WeightsOk(w) {
			t.Errorf("WeightsOk(%v) = true", w)
		}
	}
	for size := range 70 {
		for _, weight := range []int{1, 7, impl.MaxWeight} {
			if got := impl.WeightsOk(slices.Repeat([]int{weight}, size)); got != (size >= 1 && size <= 30) {
				t.Errorf("WeightsOk of %d weights of %d = %v", size, weight, got)
			}
		}
		if impl.WeightsOk(make([]int, size)) {
			t.Errorf("WeightsOk of %d weights of 0 = true", size)
		}
	}
}

// One weight decides at every place, beside others that are 0 and beside others that are not.
func TestWeightsOkAsksEveryWeight(t *testing.T) {
	for size := 1; size <= 30; size++ {
		for place := range size {
			for weight, want := range map[int]bool{0: false, 1: true, 2: true, 999999999: true, 1000000000: true, 1000000001: false, -1: false, -1000000000: false, math.MaxInt: false, math.MinInt: false} {
				if got := impl.WeightsOk(allBut(size, place, weight)); got != want {
					t.Errorf("WeightsOk of %d at place %d among %d weights of 0 = %v", weight, place, size-1, got)
				}
				beside := ones(size)
				beside[place] = weight
				if got := impl.WeightsOk(beside); got != (want || weight == 0 && size > 1) {
					t.Errorf("WeightsOk of %d at place %d among %d weights of 1 = %v", weight, place, size-1, got)
				}
			}
		}
	}
}

func TestFairShare(t *testing.T) {
	most := impl.MaxWeight
	cases := []struct {
		x    impl.Signed
		w    []int
		want string
	}{
		{plus(100), []int{1, 1, 1}, "100/3 100/3 100/3"}, {minus(10), []int{1, 0, 3}, "-5/2 0 -15/2"}, {plus(7), []int{5}, "7"}, {minus(7), []int{most}, "-7"}, {plus(), []int{1, 2, 3}, "0 0 0"}, {impl.Signed{Mag: []int{}}, []int{2, 0}, "0 0"},
		{plus(6), []int{1, 2, 3}, "1 2 3"}, {minus(6), []int{1, 2, 3}, "-1 -2 -3"}, {plus(6), []int{10, 20, 30}, "1 2 3"}, {plus(1), []int{1, 2, 3}, "1/6 1/3 1/2"}, {plus(5), []int{0, 3, 0, 1}, "0 15/4 0 5/4"}, {minus(5), []int{0, 0, 2}, "0 0 -5"},
		{plus(1), []int{most, most}, "1/2 1/2"}, {plus(1), []int{1, most}, "1/1000000001 1000000000/1000000001"}, {plus(0, 1), []int{most - 1, 1}, "999999999 1"}, {minus(0, 0, 1), []int{1, most - 1}, "-1000000000 -999999999000000000"}, {plus(1), ones(30)[:4], "1/4 1/4 1/4 1/4"},
	}
	for _, c := range cases {
		for i, want := range strings.Fields(c.want) {
			checkFair(t, c.x, c.w, i, quotient(want))
			checkFair(t, opposite(c.x), c.w, i, new(big.Rat).Neg(quotient(want)))
		}
	}
}

// badPlaces are no indices of n weights.
func badPlaces(n int) []int {
	return []int{-1, -2, -n, n, n + 1, n + 30, 1 << 32, -1 << 32, math.MaxInt, math.MinInt}
}

func TestFairShareLikeBig(t *testing.T) {
	for _, w := range goodWeights() {
		for _, x := range slices.Concat(manyInts(), splitInts()) {
			for i := range w {
				checkFair(t, x, w, i, bigFair(x, w, i))
			}
		}
		for _, x := range []impl.Signed{plus(), plus(5), minus(7, 1), mostUnits()} {
			for _, i := range badPlaces(len(w)) {
				checkFair(t, x, w, i, nil)
			}
		}
	}
}

func TestFairShareInvalid(t *testing.T) {
	for _, x := range badInts() {
		for _, w := range goodWeights() {
			for _, i := range append(firstMidLast(len(w)-1), -1, len(w)) {
				checkFair(t, x, w, i, nil)
			}
		}
	}
	for _, w := range slices.Concat(badWeights(), fewBadWeights()) {
		for _, x := range []impl.Signed{plus(), plus(5), minus(7, 1), {Neg: true}, plus(0), plus(sameLimbs(50, top)...)} {
			for _, i := range []int{-1, 0, 1, 2, 29, 30, 31, len(w) - 1, len(w), math.MaxInt} {
				checkFair(t, x, w, i, nil)
			}
		}
	}
}

type limitCase struct {
	x    impl.Signed
	w    []int
	fair string
}

// limitCases are integers of more limbs than a fraction may have: a letter for each index tells whether there is a fair share.
func limitCases() []limitCase {
	most := impl.MaxWeight
	greatest := plus(sameLimbs(18, top)...)
	times := func(k int64) impl.Signed {
		return limitedSigned(new(big.Int).Mul(bigSigned(greatest), big.NewInt(k)))
	}
	spread := append([]int{1}, slices.Repeat([]int{most}, 29)...)
	return []limitCase{
		{greatest, []int{1}, "y"}, {greatest, []int{0, most, 0}, "yyy"}, {plus(powerOfBase(19)...), []int{1}, "n"}, {plus(powerOfBase(19)...), []int{0, 7, 0}, "yny"},
		{times(2), []int{1, 1}, "yy"}, {times(2), []int{1, 1, 0}, "yyy"}, {times(2), []int{2, 1}, "ny"}, {times(2), []int{1, 2}, "yn"}, {times(2), []int{1, 0, 1}, "yyy"}, {times(3), []int{1, 1}, "nn"}, {times(3), []int{2, 2, 2}, "yyy"}, {times(4), []int{1, 1, 2}, "yyn"}, {times(3), []int{1, 1, 2}, "nnn"},
		{times(30), ones(30), strings.Repeat("y", 30)}, {times(31), ones(30), strings.Repeat("n", 30)}, {times(30), append([]int{2}, ones(28)...), "n" + strings.Repeat("y", 28)}, {times(int64(most)), []int{1, most - 1}, "yn"}, {times(int64(most)), []int{most - 1, 1}, "ny"},
		{times(29*int64(most) + 1), spread, "y" + strings.Repeat("n", 29)}, {times(29*int64(most) + 2), spread, strings.Repeat("n", 30)}, {times(3 * int64(most)), []int{most, 1, most, 0, most - 1}, "nynyn"},
		{plus(powerOfBase(19)...), []int{1, most - 1}, "yy"}, {plus(powerOfBase(20)...), []int{1, most - 1}, "nn"}, {plus(append(sameLimbs(17, 0), 0, 10)...), []int{1, most - 1}, "yn"}, {plus(append(sameLimbs(17, 0), 0, 10)...), []int{most - 1, 0, 1}, "nyy"},
		{plus(sameLimbs(50, top)...), []int{1}, "n"}, {plus(sameLimbs(50, top)...), []int{0, 1}, "yn"}, {plus(sameLimbs(50, top)...), []int{1, 0, 2}, "nyn"}, {plus(sameLimbs(50, top)...), []int{most, most, 0}, "nny"}, {plus(powerOfBase(50)...), []int{most, 1}, "nn"}, {plus(powerOfBase(49)...), []int{most, 0, 0}, "nyy"}, {plus(powerOfBase(50)...), spread, strings.Repeat("n", 30)},
	}
}

// A share may be a fraction where x is none, and where x times the weight is no integer the share is none either, but for a weight of 0.
func TestFairShareAtTheLimit(t *testing.T) {
	for _, c := range limitCases() {
		for i := range c.w {
			for _, x := range []impl.Signed{c.x, opposite(c.x)} {
				checkFair(t, x, c.w, i, bigFair(x, c.w, i))
				if _, ok := impl.FairShare(x, c.w, i); ok != (c.fair[i] == 'y') {
					t.Errorf("FairShare(%v, %v, %d): %v", x, c.w, i, ok)
				}
			}
		}
	}
}

// There are no parts where one index has no fair share, wherever it stands.
func TestSharesAtTheLimit(t *testing.T) {
	for _, c := range limitCases() {
		for _, x := range []impl.Signed{c.x, opposite(c.x)} {
			checkSplitBig(t, x, c.w)
			if _, ok := impl.Shares(x, c.w); ok == strings.Contains(c.fair, "n") {
				t.Errorf("Shares(%v, %v): %v", x, c.w, ok)
			}
		}
	}
}

func TestShares(t *testing.T) {
	most := impl.MaxWeight
	cases := []struct {
		x    int64
		w    []int
		want []impl.Signed
	}{
		{100, []int{1, 1, 1}, integers(34, 33, 33)}, {-10, []int{1, 0, 3}, integers(-3, 0, -7)}, {5, []int{1, 1}, integers(3, 2)}, {4, []int{1, 1}, integers(2, 2)}, {101, []int{1, 1, 1}, integers(34, 34, 33)}, {102, []int{1, 1, 1}, integers(34, 34, 34)},
		// Equal remainders beside a larger and a smaller one.
		{10, []int{1, 1, 1, 1}, integers(3, 3, 2, 2)}, {7, []int{2, 1, 1, 2}, integers(3, 1, 1, 2)}, {8, []int{2, 1, 1, 2}, integers(3, 1, 1, 3)}, {1, []int{1, 2, 2}, integers(0, 1, 0)}, {1, []int{2, 1, 2}, integers(1, 0, 0)}, {3, []int{1, 2, 2}, integers(1, 1, 1)}, {2, []int{1, 1, 2, 2}, integers(0, 0, 1, 1)}, {2, []int{2, 2, 1, 2}, integers(1, 1, 0, 0)},
		// Different remainders: 1/10, 2/10, 3/10 and 4/10 of 1, and of others.
		{1, []int{1, 2, 3, 4}, integers(0, 0, 0, 1)}, {2, []int{1, 2, 3, 4}, integers(0, 0, 1, 1)}, {3, []int{1, 2, 3, 4}, integers(0, 1, 1, 1)}, {4, []int{1, 2, 3, 4}, integers(0, 1, 1, 2)}, {6, []int{4, 3, 2, 1}, integers(2, 2, 1, 1)}, {9, []int{4, 3, 2, 1}, integers(3, 3, 2, 1)}, {11, []int{1, 2, 3, 4}, integers(1, 2, 3, 5)},
		// No unit is missing.
		{10, []int{1, 2, 3, 4}, integers(1, 2, 3, 4)}, {100, []int{3, 0, 2}, integers(60, 0, 40)}, {0, []int{1, 2, 3}, integers(0, 0, 0)}, {0, []int{5}, integers(0)}, {0, ones(30), slices.Repeat(integers(0), 30)}, {30, ones(30), slices.Repeat(integers(1), 30)},
		// Weights of 0.
		{1, []int{0, 1}, integers(0, 1)}, {1, []int{0, 1, 1}, integers(0, 1, 0)}, {5, []int{0, 3, 0, 3, 0, 3}, integers(0, 2, 0, 2, 0, 1)}, {7, []int{0, 0, 5}, integers(0, 0, 7)}, {7, []int{5, 0, 0}, integers(7, 0, 0)}, {29, append([]int{0}, ones(29)...), append(integers(0), slices.Repeat(integers(1), 29)...)},
		// One weight, and fewer units than weights.
		{9, []int{1}, integers(9)}, {9, []int{most}, integers(9)}, {1, []int{1, 1, 1}, integers(1, 0, 0)}, {2, []int{1, 1, 1}, integers(1, 1, 0)}, {1, []int{1, 1, 2}, integers(0, 0, 1)}, {1, []int{most - 1, most}, integers(0, 1)}, {1, []int{most, most}, integers(1, 0)}, {3, []int{most, 1, most, 1}, integers(2, 0, 1, 0)},
		// A remainder beyond one half is not enough if others are larger.
		{5, []int{6, 6, 2}, integers(2, 2, 1)}, {7, []int{3, 3, 3, 1}, integers(2, 2, 2, 1)}, {8, []int{3, 3, 3, 1}, integers(3, 2, 2, 1)}, {3, []int{5, 3, 1}, integers(2, 1, 0)},
	}
	for _, c := range cases {
		checkSplit(t, integers(c.x)[0], c.w, c.want, true)
		checkSplit(t, integers(-c.x)[0], c.w, oppositeInts(c.want), true)
	}
}

// Equal weights leave from no unit to one unit less than there are weights; the first parts receive them.
func TestSharesMissing(t *testing.T) {
	for n := 1; n <= 30; n++ {
		for missing := range n {
			for _, whole := range []int64{0, 1, 999999999999999999} {
				total := new(big.Int).Mul(big.NewInt(whole), big.NewInt(int64(n)))
				x := limitedSigned(total.Add(total, big.NewInt(int64(missing))))
				want := append(slices.Repeat(integers(whole+1), missing), slices.Repeat(integers(whole), n-missing)...)
				for _, weight := range []int{1, impl.MaxWeight} {
					w := slices.Repeat([]int{weight}, n)
					checkSplit(t, x, w, want, true)
					checkSplit(t, opposite(x), w, oppositeInts(want), true)
				}
			}
		}
	}
}

func TestSharesLikeBig(t *testing.T) {
	for _, w := range goodWeights() {
		for _, x := range slices.Concat(splitInts(), limitInts()) {
			checkSplitBig(t, x, w)
		}
	}
}

// randomWeights have many equal remainders, or hardly any.
func randomWeights(r *rand.Rand) []int {
	most := []int{1, 2, 3, 5, 9, 100, 12345, impl.MaxWeight}[r.IntN(8)]
	var w []int
	for range 1 + r.IntN(30) {
		w = append(w, r.IntN(most+1))
	}
	w[r.IntN(len(w))] = 1 + r.IntN(most)
	return w
}

// randomInt is small, or a few units away from a multiple of the total of the weights, or of any length up to the limit.
func randomInt(r *rand.Rand, w []int) impl.Signed {
	n := big.NewInt(r.Int64N(201))
	switch r.IntN(3) {
	case 1:
		n.Add(n.Mul(totalOf(w), big.NewInt(r.Int64N(100000))), big.NewInt(r.Int64N(31)))
	case 2:
		n = bigOf(randomNat(r, 1+r.IntN(20)))
	}
	if r.IntN(2) == 0 {
		n.Neg(n)
	}
	return limitedSigned(n)
}

// eachRandomSplit tries the same arguments at each run.
func eachRandomSplit(seed uint64, count int, try func(x impl.Signed, w []int)) {
	r := rand.New(rand.NewPCG(12, seed))
	for range count {
		w := randomWeights(r)
		try(randomInt(r, w), w)
	}
}

func TestSharesOfRandomsLikeBig(t *testing.T) {
	seen := map[bool]int{}
	eachRandomSplit(14, 3000, func(x impl.Signed, w []int) {
		_, ok := bigShares(x, w)
		seen[ok]++
		checkSplitBig(t, x, w)
	})
	if seen[true] < 2000 || seen[false] < 50 {
		t.Errorf("there were parts and no parts %v times", seen)
	}
}

// received tells which parts are one unit further from 0 than their fair shares rounded down; the others have to equal these.
func received(t *testing.T, x impl.Signed, w []int, parts []impl.Signed) ([]bool, []*big.Rat) {
	t.Helper()
	var more []bool
	var rests []*big.Rat
	for i, part := range parts {
		fair, ok := impl.FairShare(x, w, i)
		low, rest, lowOk := impl.RatRest(fair, impl.RmDown)
		if !ok || !lowOk {
			t.Fatalf("FairShare(%v, %v, %d) is not rounded", x, w, i)
		}
		further := new(big.Int).Add(bigSigned(low), big.NewInt(int64(bigSigned(x).Sign())))
		more = append(more, bigSigned(x).Sign() != 0 && bigSigned(part).Cmp(further) == 0)
		if !more[i] && !sameSigned(part, low) {
			t.Errorf("Shares(%v, %v): part %d is %v", x, w, i, part)
		}
		left := bigRat(rest)
		rests = append(rests, left.Abs(left))
	}
	return more, rests
}

// checkShareLaws does without the oracle: P5 in the words of the promise.
func checkShareLaws(t *testing.T, x impl.Signed, w []int) int {
	t.Helper()
	parts, ok := impl.Shares(x, w)
	if !ok {
		return 0
	}
	if len(parts) != len(w) || !sameSigned(impl.IntSum(parts), x) {
		t.Errorf("Shares(%v, %v) = %v, which add up to %v", x, w, parts, impl.IntSum(parts))
	}
	for i, part := range parts {
		if gap := bigFair(x, w, i); !impl.IntOk(part) || gap.Sub(gap, new(big.Rat).SetInt(bigSigned(part))).Abs(gap).Cmp(big.NewRat(1, 1)) >= 0 {
			t.Errorf("Shares(%v, %v): part %d is %v", x, w, i, part)
		}
	}
	more, rests := received(t, x, w, parts)
	for i := range parts {
		for j := range parts {
			order := rests[i].Cmp(rests[j])
			if more[i] && !more[j] && (order < 0 || order == 0 && i > j) {
				t.Errorf("Shares(%v, %v) = %v: part %d received a unit and part %d did not", x, w, parts, i, j)
			}
		}
		if more[i] && rests[i].Sign() == 0 {
			t.Errorf("Shares(%v, %v) = %v: part %d received a unit, and nothing of it was discarded", x, w, parts, i)
		}
	}
	return len(slices.DeleteFunc(more, func(got bool) bool { return !got }))
}

// P5: shares add up to the whole; each is one of the two integers adjacent to its fair share; a part that received an additional unit had a remainder at least as large as one that did not.
func TestShareLaws(t *testing.T) {
	units := map[int]int{}
	for _, w := range goodWeights() {
		for _, x := range splitInts() {
			units[checkShareLaws(t, x, w)]++
		}
	}
	eachRandomSplit(15, 1500, func(x impl.Signed, w []int) { units[checkShareLaws(t, x, w)]++ })
	for missing := range 30 {
		if units[missing] == 0 {
			t.Errorf("in no case %d units were missing", missing)
		}
	}
}

// The opposite integer has the opposite parts, and the common factor of the weights does not matter.
func TestSharesMirrorAndScale(t *testing.T) {
	eachRandomSplit(16, 1000, func(x impl.Signed, w []int) {
		parts, ok := impl.Shares(x, w)
		checkSplit(t, opposite(x), w, oppositeInts(parts), ok)
		factor := impl.MaxWeight / slices.Max(w)
		var scaled []int
		for _, weight := range w {
			scaled = append(scaled, weight*factor)
		}
		checkSplit(t, x, scaled, parts, ok)
	})
}

func TestSharesInvalid(t *testing.T) {
	for _, x := range badInts() {
		for _, w := range slices.Concat(goodWeights(), fewBadWeights()) {
			checkSplit(t, x, w, nil, false)
		}
		for _, n := range []int{-1, 0, 1, 2, 30, 31} {
			checkEven(t, x, n, nil, false)
		}
	}
	for _, w := range slices.Concat(badWeights(), fewBadWeights()) {
		for _, x := range []impl.Signed{plus(), {Mag: []int{}}, plus(5), minus(7, 1), mostUnits(), plus(sameLimbs(50, top)...)} {
			checkSplit(t, x, w, nil, false)
		}
	}
}

func checkEven(t *testing.T, x impl.Signed, n int, want []impl.Signed, wantOk bool) {
	t.Helper()
	got, ok := impl.SharesEven(x, n)
	if ok != wantOk || !slices.EqualFunc(got, want, sameSigned) {
		t.Errorf("SharesEven(%v, %d) = %v, %v, not %v, %v", x, n, got, ok, want, wantOk)
	}
}

func TestSharesEven(t *testing.T) {
	checkEven(t, plus(5), 2, integers(3, 2), true)
	checkEven(t, minus(5), 2, integers(-3, -2), true)
	checkEven(t, plus(100), 3, integers(34, 33, 33), true)
	checkEven(t, minus(7), 1, integers(-7), true)
	checkEven(t, plus(), 4, integers(0, 0, 0, 0), true)
	checkEven(t, minus(2), 4, integers(-1, -1, 0, 0), true)
	checkEven(t, plus(59), 30, append(slices.Repeat(integers(2), 29), integers(1)...), true)
	for i, x := range slices.Concat(splitInts(), limitInts()) {
		for n := 1 + i%4; n <= 30; n += 1 + i%8 {
			want, wantOk := bigShares(x, ones(n))
			checkEven(t, x, n, want, wantOk)
			given, givenOk := impl.Shares(x, ones(n))
			checkEven(t, x, n, given, givenOk)
		}
	}
	for _, n := range []int{0, -1, -2, -30, 31, 32, 60, 1000, 1 << 32, 1<<32 + 1, -1 << 32, math.MaxInt, math.MinInt, math.MinInt + 1} {
		for _, x := range []impl.Signed{plus(), plus(5), minus(62), plus(sameLimbs(50, top)...), {Neg: true}} {
			checkEven(t, x, n, nil, false)
		}
	}
}

func checkSharesOk(t *testing.T, x impl.Signed, w []int, parts []impl.Signed, want bool) {
	t.Helper()
	if got := impl.SharesOk(x, w, parts); got != want {
		t.Errorf("SharesOk(%v, %v, %v) = %v", x, w, parts, got)
	}
}

// withPart replaces one part of a copy.
func withPart(parts []impl.Signed, place int, part impl.Signed) []impl.Signed {
	other := slices.Clone(parts)
	other[place] = part
	return other
}

func TestSharesOk(t *testing.T) {
	w := []int{1, 1, 1}
	checkSharesOk(t, plus(100), w, integers(34, 33, 33), true)
	checkSharesOk(t, minus(100), w, integers(-34, -33, -33), true)
	for _, parts := range [][]impl.Signed{integers(33, 34, 33), integers(33, 33, 34), integers(33, 33, 33), integers(34, 34, 33), integers(34, 34, 32), integers(35, 33, 32), integers(100, 0, 0), integers(-34, -33, -33), integers(34, 33), integers(34, 33, 33, 0), integers(0, 34, 33, 33), integers(34, 33, 33, 34, 33, 33), integers(100), integers(), {}} {
		checkSharesOk(t, plus(100), w, parts, false)
	}
	checkSharesOk(t, plus(), []int{1, 0}, []impl.Signed{{}, {Mag: []int{}}}, true)
	checkSharesOk(t, impl.Signed{Mag: []int{}}, []int{1}, integers(0), true)
	checkSharesOk(t, plus(), []int{1, 0}, []impl.Signed{{}, {Neg: true}}, false)
	checkSharesOk(t, plus(), []int{1, 0}, []impl.Signed{{Neg: true, Mag: []int{}}, {}}, false)
	checkSharesOk(t, plus(), []int{1}, nil, false)
}

// The parts of many integers, and what differs from them in one thing.
func TestSharesOkAsksEveryPart(t *testing.T) {
	for _, w := range goodWeights() {
		ints := append(integers(0, 1, -1, 5, -29, 100, -1000), mostUnits(), minus(7, 1), plus(powerOfBase(10)...))
		if len(w) > 10 {
			ints = append(integers(-29), plus(7, 1))
		}
		for _, x := range ints {
			parts, _ := bigShares(x, w)
			checkSharesOk(t, x, w, parts, true)
			for i, part := range parts {
				checkPartChanged(t, x, w, parts, i)
				j := (i + 1) % len(parts)
				checkSharesOk(t, x, w, withPart(withPart(parts, i, parts[j]), j, part), sameSigned(part, parts[j]))
				checkSharesOk(t, x, w, slices.Delete(slices.Clone(parts), i, i+1), false)
				checkSharesOk(t, x, w, slices.Insert(slices.Clone(parts), i, plus()), false)
				checkSharesOk(t, x, w, slices.Insert(slices.Clone(parts), i, part), false)
			}
			for _, other := range [][]impl.Signed{nil, {}, append(slices.Clone(parts), plus()), append(slices.Clone(parts), parts...), parts[:len(parts)-1], parts[1:]} {
				checkSharesOk(t, x, w, other, false)
			}
		}
	}
}

// checkPartChanged changes a part by a unit, beside itself and with the unit taken from the next part, and makes it one that is not valid.
func checkPartChanged(t *testing.T, x impl.Signed, w []int, parts []impl.Signed, place int) {
	t.Helper()
	for _, unit := range []int64{1, -1, 1000000000} {
		changed := limitedSigned(new(big.Int).Add(bigSigned(parts[place]), big.NewInt(unit)))
		other := withPart(parts, place, changed)
		checkSharesOk(t, x, w, other, false)
		next := (place + 1) % len(parts)
		back := limitedSigned(new(big.Int).Sub(bigSigned(other[next]), big.NewInt(unit)))
		checkSharesOk(t, x, w, withPart(other, next, back), len(parts) == 1)
	}
	part := parts[place]
	longer := append(slices.Clone(part.Mag), 0)
	invalid := []impl.Signed{{Neg: part.Neg, Mag: longer}, {Neg: !part.Neg, Mag: part.Mag}, {Neg: part.Neg, Mag: sameLimbs(51, 1)}, {Neg: true}, {Mag: []int{0}}, {Neg: part.Neg, Mag: []int{-1}}, {Mag: []int{impl.Base}}}
	if len(part.Mag) > 0 {
		shifted := slices.Clone(longer)
		shifted[0], shifted[1] = shifted[0]-impl.Base, shifted[1]+1
		negative := slices.Clone(part.Mag)
		negative[0] = -negative[0]
		invalid = append(invalid, impl.Signed{Neg: part.Neg, Mag: shifted}, impl.Signed{Neg: !part.Neg, Mag: negative}, plus())
	}
	for _, stranger := range invalid {
		checkSharesOk(t, x, w, withPart(parts, place, stranger), sameSigned(stranger, part))
	}
}

// Where Shares returns false there is no result that parts could equal: what it returns beside the false is the zero value of chapter 1, which is empty and no split of x (P5: shares add up to the whole). So no parts are accepted there, neither empty ones nor others.
func TestSharesOkWhereThereAreNone(t *testing.T) {
	large := plus(powerOfBase(20)...)
	cases := []struct {
		x impl.Signed
		w []int
	}{
		{plus(), nil}, {plus(), []int{}}, {plus(), []int{0}}, {plus(), []int{0, 0}}, {plus(5), []int{6, -1}}, {plus(5), []int{impl.MaxWeight + 1}}, {plus(31), ones(31)}, {plus(), ones(31)}, {impl.Signed{Neg: true}, []int{1}}, {plus(0), []int{1}}, {plus(-1), []int{1}}, {plus(impl.Base), []int{1, 1}},
		{large, []int{1}}, {large, []int{0, 1}}, {large, []int{1, 1}}, {opposite(large), ones(30)}, {plus(sameLimbs(50, top)...), []int{1, 0}}, {plus(sameLimbs(51, top)...), []int{1}},
	}
	for _, c := range cases {
		same := []impl.Signed{c.x}
		for _, parts := range [][]impl.Signed{nil, {}, integers(0), integers(0, 0), integers(5), integers(1, 1), {{Neg: true}}, same, {plus(), c.x}, {c.x, plus()}, slices.Repeat(integers(0), len(c.w)), slices.Repeat(integers(1), len(c.w)), slices.Repeat(same, len(c.w))} {
			checkSharesOk(t, c.x, c.w, parts, false)
		}
	}
}

// checkShareMoney takes nil where there are no amounts.
func checkShareMoney(t *testing.T, m impl.Money, w []int, want []impl.Money) {
	t.Helper()
	got, ok := impl.ShareMoney(m, w)
	if ok != (want != nil) || !slices.EqualFunc(got, want, sameMoney) {
		t.Errorf("ShareMoney(%v, %v) = %v, %v, not %v", m, w, got, ok, want)
	}
	for _, part := range got {
		if !impl.MoneyOk(part) {
			t.Errorf("ShareMoney(%v, %v): %v is not valid", m, w, part)
		}
	}
}

func TestShareMoney(t *testing.T) {
	cases := []struct {
		m    string
		w    []int
		want string
	}{
		{"EUR 0.05", []int{2, 1}, "EUR 0.03, EUR 0.02"}, {"EUR -0.05", []int{2, 1}, "EUR -0.03, EUR -0.02"}, {"EUR 10.00", []int{1, 1, 1}, "EUR 3.34, EUR 3.33, EUR 3.33"}, {"EUR 1.00", []int{1, 2}, "EUR 0.33, EUR 0.67"}, {"EUR 0.01", []int{1, 1}, "EUR 0.01, EUR 0.00"}, {"EUR 0.00", []int{1, 2, 3}, "EUR 0.00, EUR 0.00, EUR 0.00"},
		{"JPY 100", []int{1, 1, 1}, "JPY 34, JPY 33, JPY 33"}, {"JPY -100", []int{1, 1, 1}, "JPY -34, JPY -33, JPY -33"}, {"JPY 1", []int{1, 1, 1}, "JPY 1, JPY 0, JPY 0"}, {"JPY 0", []int{1, 1}, "JPY 0, JPY 0"}, {"JPY 7", []int{0, 1, 0}, "JPY 0, JPY 7, JPY 0"},
		{"KWD 10.000", []int{1, 1, 1}, "KWD 3.334, KWD 3.333, KWD 3.333"}, {"KWD -0.005", []int{1, 1}, "KWD -0.003, KWD -0.002"}, {"CLF 10.0000", []int{1, 1, 1}, "CLF 3.3334, CLF 3.3333, CLF 3.3333"}, {"CLF 0.0001", []int{1, 3}, "CLF 0.0000, CLF 0.0001"}, {"CLF -0.0001", []int{1, 1}, "CLF -0.0001, CLF 0.0000"},
		// The units are split, and not the cash that there is: the smallest coin of CHF is 0.05.
		{"CHF 0.05", []int{1, 1}, "CHF 0.03, CHF 0.02"}, {"CHF 1.00", []int{1, 1, 1}, "CHF 0.34, CHF 0.33, CHF 0.33"}, {"SEK 1.00", []int{1, 1}, "SEK 0.50, SEK 0.50"}, {"USD 12.34", []int{7}, "USD 12.34"},
	}
	for _, c := range cases {
		checkShareMoney(t, money(c.m), c.w, moneys(c.want))
	}
	for _, w := range goodWeights() {
		for _, m := range inCurrencies(fewUnits(), "JPY CHF KWD CLF") {
			checkShareMoney(t, m, w, amountsBig(m, w))
		}
	}
	for _, w := range [][]int{{1, 1, 1}, {0, 2, 3, 5}, {999999937, 1, 999999893, 7}} {
		for _, m := range slices.Concat(inCurrencies(manyUnits(), "TND SEK"), inCurrencies(integers(0, 1, -1, 100, -999), curOrder)) {
			checkShareMoney(t, m, w, amountsBig(m, w))
		}
	}
}

// amountsBig splits a valid amount.
func amountsBig(m impl.Money, w []int) []impl.Money {
	parts, _ := bigShares(m.Units, w)
	var all []impl.Money
	for _, part := range parts {
		all = append(all, amount(m.Cur, part))
	}
	return all
}

// An amount that is not valid is not split, also where its units alone would be: too many limbs, an unknown currency. A valid amount always has shares.
func TestShareMoneyInvalid(t *testing.T) {
	for _, m := range slices.Concat(badMoney(), fewBadMoney()) {
		for _, w := range slices.Concat(fewWeights(), fewBadWeights()) {
			checkShareMoney(t, m, w, nil)
		}
	}
	for limbs := 1; limbs <= 60; limbs++ {
		for _, units := range bothSigns([][]int{powerOfBase(limbs), sameLimbs(limbs, top)}) {
			for _, w := range fewWeights() {
				if _, ok := impl.ShareMoney(amount("EUR", units), w); ok != (limbs <= 4) {
					t.Errorf("ShareMoney of %d limbs by %v: %v", limbs, w, ok)
				}
			}
		}
	}
	for _, w := range slices.Concat(badWeights(), fewBadWeights()) {
		for _, m := range inCurrencies([]impl.Signed{plus(), plus(5), minus(7), mostUnits()}, "EUR JPY CLF") {
			checkShareMoney(t, m, w, nil)
		}
	}
}

// shareResult is the memory of a result: the limbs in it, and what overwrites the slice around them.
type shareResult struct {
	limbs   [][]int
	destroy func()
}

func resultOfInts(l []impl.Signed, _ bool) shareResult {
	r := shareResult{destroy: func() { overwriteList(l, minus(-88)) }}
	for _, x := range l {
		r.limbs = append(r.limbs, x.Mag)
	}
	return r
}

func resultOfMoney(l []impl.Money, _ bool) shareResult {
	r := shareResult{destroy: func() { overwriteList(l, amount("ZZZ", minus(-88))) }}
	for _, m := range l {
		r.limbs = append(r.limbs, m.Units.Mag)
	}
	return r
}

func resultOfRat(r impl.Rat, _ bool) shareResult {
	return shareResult{limbs: [][]int{r.Num.Mag, r.Den}, destroy: func() {}}
}

// shareCalls take an amount, whose units are what the functions for integers split.
func shareCalls() map[string]func(m impl.Money, w []int) shareResult {
	return map[string]func(m impl.Money, w []int) shareResult{
		"FairShare of the first": func(m impl.Money, w []int) shareResult { return resultOfRat(impl.FairShare(m.Units, w, 0)) },
		"FairShare of the last":  func(m impl.Money, w []int) shareResult { return resultOfRat(impl.FairShare(m.Units, w, len(w)-1)) },
		"Shares":                 func(m impl.Money, w []int) shareResult { return resultOfInts(impl.Shares(m.Units, w)) },
		"SharesEven":             func(m impl.Money, w []int) shareResult { return resultOfInts(impl.SharesEven(m.Units, len(w))) },
		"ShareMoney":             func(m impl.Money, w []int) shareResult { return resultOfMoney(impl.ShareMoney(m, w)) },
	}
}

func shareMemoryAmounts() []impl.Money {
	all := inCurrencies(append(integers(0, 1, -1, 6, -100), mostUnits(), minus(7, 1), impl.Signed{Mag: []int{}}, impl.Signed{Neg: true}, plus(0), plus(powerOfBase(19)...), plus(sameLimbs(20, top)...), plus(sameLimbs(51, 1)...)), "EUR")
	return append(all, amount("XXX", plus(5)), impl.Money{})
}

func shareMemoryWeights() [][]int {
	return [][]int{{1}, {0, 1}, {1, 1}, {1, 1, 1}, {1, 0, 3}, {3, 2, 1, 6}, {impl.MaxWeight, 1, 7}, ones(30), nil, {0}, {-1, 2}, ones(31)}
}

// Chapter 1: no function changes an argument or the capacity behind it, and a result shares no memory with an argument, with a later result or with another part of itself.
func TestShareResultsAreApart(t *testing.T) {
	for name, call := range shareCalls() {
		for _, m := range shareMemoryAmounts() {
			for _, w := range shareMemoryWeights() {
				want := cloneParts(call(cloneMoney(m), slices.Clone(w)).limbs)
				for place := range want {
					arg, memory := roomyMoney(m)
					weights, weightMemory := roomy(w)
					before, weightsBefore := slices.Clone(memory), slices.Clone(weightMemory)
					got := call(arg, weights)
					overwrite(got.limbs[place])
					got.destroy()
					if !slices.Equal(memory, before) || !slices.Equal(weightMemory, weightsBefore) {
						t.Fatalf("%s of %v, %v changed an argument or shares its memory", name, m, w)
					}
					later := call(arg, weights)
					overwrite(memory)
					overwrite(weightMemory)
					got.limbs[place] = want[place]
					if !sameParts(got.limbs, want) || !sameParts(later.limbs, want) {
						t.Fatalf("%s of %v, %v: overwriting part %d or an argument changed another part or result", name, m, w, place)
					}
				}
			}
		}
	}
}

// What only answers a question leaves its arguments alone, and so do the functions whose result is empty.
func TestShareLeavesArguments(t *testing.T) {
	for _, m := range shareMemoryAmounts() {
		for _, w := range shareMemoryWeights() {
			right, _ := impl.Shares(m.Units, w)
			for _, parts := range [][]impl.Signed{nil, right, right[:len(right)/2], append(slices.Clone(right), plus(5)), integers(0, -7), badInts()} {
				arg, memory := roomyMoney(m)
				weights, weightMemory := roomy(w)
				list := roomyInts(parts)
				before, weightsBefore := slices.Clone(memory), slices.Clone(weightMemory)
				first := impl.SharesOk(arg.Units, weights, list.arg)
				impl.WeightsOk(weights)
				impl.FairShare(arg.Units, weights, 1)
				for _, call := range shareCalls() {
					call(arg, weights)
				}
				if !slices.Equal(memory, before) || !slices.Equal(weightMemory, weightsBefore) || list.changed() {
					t.Fatalf("an argument was changed: %v, %v, %v", m, w, parts)
				}
				if impl.SharesOk(arg.Units, weights, list.arg) != first {
					t.Errorf("SharesOk of %v, %v, %v answers once so and once so", m.Units, w, parts)
				}
			}
		}
	}
}

// A split is the same whenever it is made, and whatever was split before.
func TestSharesStay(t *testing.T) {
	for range 200 {
		checkSplit(t, plus(8), []int{3, 3, 3, 1}, integers(3, 2, 2, 1), true)
		checkSplit(t, minus(1), []int{1, 1}, integers(-1, 0), true)
		checkSplit(t, plus(5), []int{0}, nil, false)
		checkSplit(t, plus(powerOfBase(30)...), []int{0, 1}, nil, false)
		checkSplit(t, plus(), ones(30), slices.Repeat(integers(0), 30), true)
	}
}
