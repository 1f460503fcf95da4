package tests

import (
	"math"
	"math/big"
	"math/rand/v2"
	"slices"
	"strings"
	"testing"

	"loop.example/g00793/impl"
)

const half = impl.Base / 2

// tenLimbs writes 10^k without the functions under test.
func tenLimbs(k int) []int {
	return limbsOf(new(big.Int).Exp(big.NewInt(10), big.NewInt(int64(k)), nil))
}

// edgeNats holds every nat of at most size limbs that consists of the given limbs.
func edgeNats(size int, limbs ...int) [][]int {
	all := [][]int{nil}
	last := all
	for range size {
		var next [][]int
		for _, a := range last {
			for _, limb := range limbs {
				next = append(next, append(slices.Clone(a), limb))
			}
		}
		all = append(all, next...)
		last = next
	}
	return slices.DeleteFunc(all, func(a []int) bool { return len(a) > 0 && a[len(a)-1] == 0 })
}

// checkDiv holds NatDiv against math/big; a division by 0 gives two empty slices.
func checkDiv(t *testing.T, a []int, b []int) {
	t.Helper()
	var wantQuotient, wantRest []int
	if len(b) > 0 {
		q, r := new(big.Int).QuoRem(bigOf(a), bigOf(b), new(big.Int))
		wantQuotient, wantRest = limbsOf(q), limbsOf(r)
	}
	quotient, rest := impl.NatDiv(a, b)
	checkNat(t, quotient, wantQuotient, "quotient", a, b)
	checkNat(t, rest, wantRest, "rest", a, b)
}

func TestNatDiv(t *testing.T) {
	cases := []struct {
		a        []int
		b        []int
		quotient []int
		rest     []int
	}{
		{nil, nil, nil, nil}, {[]int{5}, nil, nil, nil}, {[]int{7, 5, 9}, []int{}, nil, nil}, {sameLimbs(50, top), nil, nil, nil},
		{nil, []int{1}, nil, nil}, {[]int{}, []int{7}, nil, nil}, {nil, sameLimbs(50, top), nil, nil},
		{[]int{7}, []int{1}, []int{7}, nil}, {[]int{7}, []int{2}, []int{3}, []int{1}}, {[]int{6}, []int{2}, []int{3}, nil},
		{[]int{3}, []int{5}, nil, []int{3}}, {[]int{5}, []int{5}, []int{1}, nil}, {[]int{7, 1}, []int{10}, []int{100000000}, []int{7}},
		{[]int{top}, []int{0, 1}, nil, []int{top}}, {[]int{0, 1}, []int{top}, []int{1}, []int{1}},
		{[]int{4, 5, 6}, []int{5, 5, 6}, nil, []int{4, 5, 6}}, {[]int{4, 5, 6}, []int{4, 5, 6}, []int{1}, nil},
		{[]int{4, 5, 6}, []int{3, 5, 6}, []int{1}, []int{1}}, {[]int{4, 5, 6}, []int{4, 6, 5}, []int{1}, []int{0, top}},
		{[]int{top, top}, []int{top}, []int{1, 1}, nil}, {[]int{top, top, top}, []int{top}, []int{1, 1, 1}, nil},
		{[]int{top - 1, top}, []int{top}, []int{0, 1}, []int{top - 1}}, {[]int{top, top, top, top}, []int{top, top}, []int{1, 0, 1}, nil},
		{[]int{3, 0, 0, 8}, []int{2}, []int{1, 0, 0, 4}, []int{1}}, {[]int{5, 0, 0, 0, 7}, []int{0, 1}, []int{0, 0, 0, 7}, []int{5}},
	}
	for _, c := range cases {
		quotient, rest := impl.NatDiv(c.a, c.b)
		checkNat(t, quotient, c.quotient, "quotient", c.a, c.b)
		checkNat(t, rest, c.rest, "rest", c.a, c.b)
	}
	for _, a := range manyNats() {
		for _, b := range manyNats() {
			checkDiv(t, a, b)
		}
	}
}

// Limbs at the ends and in the middle of their range are where a guessed limb of a quotient is wrong most easily.
func TestNatDivEdgeLimbs(t *testing.T) {
	for _, b := range edgeNats(3, 0, 1, half-1, half, top-1, top) {
		for _, a := range edgeNats(4, 0, 1, half, top) {
			checkDiv(t, a, b)
		}
	}
}

// a = quotient * b + rest with chosen quotients, zero limbs and limbs of Base - 1 among them, and the smallest and the greatest rests.
func TestNatDivChosenQuotients(t *testing.T) {
	divisors := append(edgeNats(2, 0, 1, half, top), sameLimbs(20, top), powerOfBase(20), append(sameLimbs(19, top), 1), append(sameLimbs(19, 0), half, top))
	for _, b := range divisors[1:] {
		for _, q := range edgeNats(5, 0, 1, top) {
			product := new(big.Int).Mul(bigOf(b), bigOf(q))
			most := new(big.Int).Sub(bigOf(b), big.NewInt(1))
			for _, r := range []*big.Int{new(big.Int), most} {
				a := limbsOf(new(big.Int).Add(product, r))
				quotient, rest := impl.NatDiv(a, b)
				checkNat(t, quotient, q, "quotient", a, b)
				checkNat(t, rest, limbsOf(r), "rest", a, b)
			}
		}
	}
}

func TestNatDivOfFiftyLimbs(t *testing.T) {
	r := rand.New(rand.NewPCG(4, 1))
	dividends := [][]int{sameLimbs(50, top), sameLimbs(50, 1), powerOfBase(50), append(sameLimbs(49, 0), top), append(sameLimbs(49, top), 1), randomNat(r, 50)}
	for _, a := range dividends {
		for size := 1; size <= 50; size++ {
			one, many := powerOfBase(size), sameLimbs(size, top)
			for _, b := range [][]int{one, many, append(sameLimbs(size-1, top), 1), append(sameLimbs(size-1, 0), top), append(sameLimbs(size-1, 0), half), randomNat(r, size)} {
				checkDiv(t, a, b)
			}
		}
		quotient, rest := impl.NatDiv(a, []int{1})
		checkNat(t, quotient, a, "a / 1", a)
		checkNat(t, rest, nil, "a % 1", a)
		quotient, rest = impl.NatDiv(a, a)
		checkNat(t, quotient, []int{1}, "a / a", a)
		checkNat(t, rest, nil, "a % a", a)
	}
}

func TestNatDivRandom(t *testing.T) {
	r := rand.New(rand.NewPCG(4, 2))
	for range 20000 {
		checkDiv(t, randomNat(r, r.IntN(51)), randomNat(r, r.IntN(51)))
	}
}

// P7: the quotient times the divisor plus the rest is the dividend, and the rest is less than the divisor.
func TestNatDivIsExact(t *testing.T) {
	for _, a := range manyNats() {
		for _, b := range manyNats() {
			if len(b) == 0 {
				continue
			}
			quotient, rest := impl.NatDiv(a, b)
			checkNat(t, impl.NatAdd(impl.NatMul(quotient, b), rest), a, "a / b * b + a % b", a, b)
			if impl.NatCmp(rest, b) >= 0 || !impl.NatOk(quotient) || !impl.NatOk(rest) {
				t.Errorf("NatDiv(%v, %v) = %v, %v", a, b, quotient, rest)
			}
		}
	}
}

// P7: a division takes back a multiplication, equal factors cancel, and quotients keep the order.
func TestNatDivLaws(t *testing.T) {
	for _, a := range smallNats() {
		for _, b := range smallNats() {
			if len(b) == 0 {
				continue
			}
			quotient, rest := impl.NatDiv(impl.NatMul(a, b), b)
			checkNat(t, quotient, a, "a * b / b", a, b)
			checkNat(t, rest, nil, "a * b % b", a, b)
			quotient, rest = impl.NatDiv(a, b)
			for _, c := range smallNats() {
				other, _ := impl.NatDiv(c, b)
				if order := impl.NatCmp(a, c); order*impl.NatCmp(quotient, other) < 0 || order == 0 && impl.NatCmp(quotient, other) != 0 {
					t.Errorf("a / b and c / b of %v, %v, %v: %v, %v", a, b, c, quotient, other)
				}
				if len(c) == 0 {
					continue
				}
				sameQuotient, moreRest := impl.NatDiv(impl.NatMul(a, c), impl.NatMul(b, c))
				checkNat(t, sameQuotient, quotient, "(a * c) / (b * c)", a, b, c)
				checkNat(t, moreRest, impl.NatMul(rest, c), "(a * c) % (b * c)", a, b, c)
			}
		}
	}
}

// fibonacci returns the n-th number of the sequence and the one after it; they take Euclid's algorithm the most steps.
func fibonacci(n int) (*big.Int, *big.Int) {
	a, b := big.NewInt(0), big.NewInt(1)
	for range n {
		a, b = b, new(big.Int).Add(a, b)
	}
	return a, b
}

func checkGcd(t *testing.T, a []int, b []int) {
	t.Helper()
	want := limbsOf(new(big.Int).GCD(nil, nil, bigOf(a), bigOf(b)))
	checkNat(t, impl.NatGcd(a, b), want, "NatGcd", a, b)
	checkNat(t, impl.NatGcd(b, a), want, "NatGcd", b, a)
}

func TestNatGcd(t *testing.T) {
	cases := []struct {
		a    []int
		b    []int
		want []int
	}{
		{nil, nil, nil}, {nil, []int{}, nil}, {nil, []int{5}, []int{5}}, {[]int{5}, []int{}, []int{5}}, {[]int{12}, []int{18}, []int{6}},
		{nil, []int{7, 5, 9}, []int{7, 5, 9}}, {sameLimbs(50, top), nil, sameLimbs(50, top)}, {[]int{1}, []int{1}, []int{1}},
		{[]int{1}, sameLimbs(50, top), []int{1}}, {[]int{7, 5, 9}, []int{7, 5, 9}, []int{7, 5, 9}}, {sameLimbs(50, 1), sameLimbs(50, 1), sameLimbs(50, 1)},
		{[]int{6}, []int{2}, []int{2}}, {[]int{0, 1}, []int{0, 0, 1}, []int{0, 1}}, {[]int{0, 1}, []int{512}, []int{512}}, {[]int{0, 1}, []int{1024}, []int{512}},
		{[]int{top}, []int{top, top}, []int{top}}, {sameLimbs(50, top), sameLimbs(25, top), sameLimbs(25, top)}, {sameLimbs(50, top), sameLimbs(49, top), []int{top}},
		{[]int{17}, []int{19}, []int{1}}, {[]int{top}, []int{0, 1}, []int{1}},
	}
	for _, c := range cases {
		checkNat(t, impl.NatGcd(c.a, c.b), c.want, "NatGcd", c.a, c.b)
		checkNat(t, impl.NatGcd(c.b, c.a), c.want, "NatGcd", c.b, c.a)
	}
	for i, a := range manyNats() {
		for _, b := range manyNats()[i:] {
			checkGcd(t, a, b)
		}
	}
}

func TestNatGcdManySteps(t *testing.T) {
	a, b := fibonacci(2150)
	if len(limbsOf(b)) != 50 {
		t.Fatalf("the number has %d limbs", len(limbsOf(b)))
	}
	checkGcd(t, limbsOf(a), limbsOf(b))
	a, b = fibonacci(1000)
	common := bigOf(sameLimbs(20, top))
	checkNat(t, impl.NatGcd(limbsOf(a.Mul(a, common)), limbsOf(b.Mul(b, common))), sameLimbs(20, top), "NatGcd of multiples")
	for _, a := range manyNats() {
		next := limitedLimbs(new(big.Int).Add(bigOf(a), big.NewInt(1)))
		if len(next) > 0 {
			checkNat(t, impl.NatGcd(a, next), []int{1}, "NatGcd of consecutive numbers", a)
			checkNat(t, impl.NatGcd(next, a), []int{1}, "NatGcd of consecutive numbers", a)
		}
	}
}

// P7: the greatest common divisor divides both, leaves quotients without a common divisor, and common factors come out of it.
func TestNatGcdLaws(t *testing.T) {
	for _, a := range smallNats() {
		for _, b := range smallNats() {
			gcd := impl.NatGcd(a, b)
			for _, c := range smallNats() {
				checkNat(t, impl.NatGcd(impl.NatMul(a, c), impl.NatMul(b, c)), impl.NatMul(gcd, c), "NatGcd of a * c and b * c", a, b, c)
			}
			if len(gcd) == 0 {
				continue
			}
			first, rest := impl.NatDiv(a, gcd)
			checkNat(t, rest, nil, "a % NatGcd", a, b)
			second, rest := impl.NatDiv(b, gcd)
			checkNat(t, rest, nil, "b % NatGcd", a, b)
			checkNat(t, impl.NatGcd(first, second), []int{1}, "NatGcd of the quotients", a, b)
		}
	}
}

func TestNatTen(t *testing.T) {
	for k := range 450 {
		checkNat(t, impl.NatTen(k), tenLimbs(k), "NatTen", []int{k})
		if text := impl.NatText(impl.NatTen(k)); text != "1"+strings.Repeat("0", k) {
			t.Errorf("NatText(NatTen(%d)) = %q", k, text)
		}
	}
	for _, k := range badPowers() {
		checkNat(t, impl.NatTen(k), nil, "NatTen", []int{k})
	}
	checkNat(t, impl.NatTen(449), append(sameLimbs(49, 0), 100000000), "NatTen", []int{449})
	checkNat(t, impl.NatTen(0), []int{1}, "NatTen", []int{0})
}

// badPowers are the exponents, negative or too large, for which there is no power of ten.
func badPowers() []int {
	return []int{-1, -2, -9, -440, -449, -450, math.MinInt, math.MinInt + 1, 450, 451, 459, 900, 1 << 32, math.MaxInt - 1, math.MaxInt}
}

// P7: a product of powers of ten is the power of the sum of their exponents.
func TestNatTenLaws(t *testing.T) {
	for i := 0; i < 450; i += 7 {
		for j := range 450 {
			checkNat(t, impl.NatMul(impl.NatTen(i), impl.NatTen(j)), impl.NatTen(i+j), "NatTen(i) * NatTen(j)", []int{i, j})
			if i <= j {
				quotient, rest := impl.NatDiv(impl.NatTen(j), impl.NatTen(i))
				checkNat(t, quotient, impl.NatTen(j-i), "NatTen(j) / NatTen(i)", []int{i, j})
				checkNat(t, rest, nil, "NatTen(j) % NatTen(i)", []int{i, j})
			}
		}
	}
}

func TestNatScale(t *testing.T) {
	cases := []struct {
		a    []int
		k    int
		want []int
	}{
		{nil, 0, nil}, {[]int{}, 5, nil}, {nil, 449, nil}, {nil, 450, nil}, {nil, 100000, nil}, {nil, math.MaxInt, nil}, {nil, -1, nil}, {nil, math.MinInt, nil},
		{[]int{7}, 0, []int{7}}, {[]int{7}, 2, []int{700}}, {[]int{7}, 8, []int{700000000}}, {[]int{7}, 9, []int{0, 7}}, {[]int{12}, 8, []int{200000000, 1}},
		{[]int{7, 5, 9}, 18, []int{0, 0, 7, 5, 9}}, {[]int{7}, -1, nil}, {[]int{7}, math.MinInt, nil}, {[]int{7}, math.MaxInt, nil},
		{[]int{1}, 449, append(sameLimbs(49, 0), 100000000)}, {[]int{9}, 449, append(sameLimbs(49, 0), 900000000)}, {[]int{10}, 449, nil}, {[]int{1}, 450, nil},
		{sameLimbs(50, top), 0, sameLimbs(50, top)}, {sameLimbs(50, top), 1, nil}, {sameLimbs(49, top), 9, append([]int{0}, sameLimbs(49, top)...)},
		{sameLimbs(49, top), 10, nil}, {powerOfBase(50), 8, append(sameLimbs(49, 0), 100000000)}, {powerOfBase(50), 9, nil},
	}
	for _, c := range cases {
		checkNat(t, impl.NatScale(c.a, c.k), c.want, "NatScale", c.a, []int{c.k})
	}
	for _, a := range manyNats() {
		for k := range 460 {
			want := limitedLimbs(new(big.Int).Mul(bigOf(a), bigOf(tenLimbs(k))))
			checkNat(t, impl.NatScale(a, k), want, "NatScale", a, []int{k})
		}
		for _, k := range badPowers() {
			checkNat(t, impl.NatScale(a, k), nil, "NatScale", a, []int{k})
		}
	}
}

// A number of d digits has room for exactly 450 - d more.
func TestNatScaleAtTheLimit(t *testing.T) {
	for digits := 1; digits <= 450; digits++ {
		for _, s := range []string{strings.Repeat("9", digits), "1" + strings.Repeat("0", digits-1)} {
			x, _ := new(big.Int).SetString(s, 10)
			a, room := limbsOf(x), 450-digits
			full := impl.NatScale(a, room)
			if len(full) != 50 || impl.NatText(full) != s+strings.Repeat("0", room) {
				t.Errorf("NatScale(%v, %d) = %v", a, room, full)
			}
			checkNat(t, impl.NatScale(a, room+1), nil, "NatScale", a, []int{room + 1})
		}
	}
}

func TestNatCut(t *testing.T) {
	cases := []struct {
		a        []int
		k        int
		quotient []int
		rest     []int
	}{
		{[]int{1234}, 2, []int{12}, []int{34}}, {[]int{1234}, 0, []int{1234}, nil}, {[]int{1234}, 4, nil, []int{1234}}, {[]int{1200}, 2, []int{12}, nil},
		{[]int{1203}, 2, []int{12}, []int{3}}, {nil, 0, nil, nil}, {nil, 5, nil, nil}, {[]int{7, 5, 9}, 9, []int{5, 9}, []int{7}},
		{[]int{7, 5, 9}, 18, []int{9}, []int{7, 5}}, {[]int{7, 0, 9}, 18, []int{9}, []int{7}}, {[]int{7, 5, 9}, 400, nil, []int{7, 5, 9}},
		{sameLimbs(50, top), 0, sameLimbs(50, top), nil}, {sameLimbs(50, top), 440, []int{top, 9}, append(sameLimbs(48, top), 99999999)},
		{sameLimbs(50, top), 441, nil, nil}, {sameLimbs(50, top), 449, nil, nil}, {sameLimbs(50, top), 450, nil, nil}, {[]int{1234}, 441, nil, nil},
		{[]int{1234}, -1, nil, nil}, {[]int{1234}, math.MinInt, nil, nil}, {[]int{1234}, math.MaxInt, nil, nil}, {powerOfBase(50), 440, []int{10}, nil},
	}
	for _, c := range cases {
		quotient, rest := impl.NatCut(c.a, c.k)
		checkNat(t, quotient, c.quotient, "quotient of NatCut", c.a, []int{c.k})
		checkNat(t, rest, c.rest, "rest of NatCut", c.a, []int{c.k})
	}
	for _, a := range manyNats() {
		for k := range 441 {
			checkCutText(t, a, k)
		}
		for _, k := range append(badPowers(), 441, 442, 449) {
			quotient, rest := impl.NatCut(a, k)
			checkNat(t, quotient, nil, "quotient of NatCut", a, []int{k})
			checkNat(t, rest, nil, "rest of NatCut", a, []int{k})
		}
	}
}

// checkCutText cuts the decimal notation itself.
func checkCutText(t *testing.T, a []int, k int) {
	t.Helper()
	text := strings.Repeat("0", k+1) + bigOf(a).String()
	place := len(text) - k
	trimmed := func(s string) string { return "0"[:max(0, 1-len(strings.TrimLeft(s, "0")))] + strings.TrimLeft(s, "0") }
	quotient, rest := impl.NatCut(a, k)
	if impl.NatText(quotient) != trimmed(text[:place]) || impl.NatText(rest) != trimmed(text[place:]) {
		t.Errorf("NatCut(%v, %d) = %v, %v", a, k, quotient, rest)
	}
}

// P7: a cut takes back a scaling.
func TestNatCutTakesBackScale(t *testing.T) {
	for _, a := range smallNats() {
		for k := 0; k <= 306; k++ {
			quotient, rest := impl.NatCut(impl.NatScale(a, k), k)
			checkNat(t, quotient, a, "a * 10^k / 10^k", a, []int{k})
			checkNat(t, rest, nil, "a * 10^k % 10^k", a, []int{k})
		}
	}
}

func TestNatZeros(t *testing.T) {
	cases := []struct {
		a    []int
		want int
	}{
		{nil, 0}, {[]int{}, 0}, {[]int{1}, 0}, {[]int{10}, 1}, {[]int{1200}, 2}, {[]int{1020}, 1}, {[]int{100000000}, 8}, {[]int{top}, 0},
		{[]int{0, 1}, 9}, {[]int{0, 10}, 10}, {[]int{10, 1}, 1}, {[]int{1, 10}, 0}, {[]int{100000000, 1}, 8}, {[]int{0, 100000000}, 17},
		{[]int{0, 0, 1}, 18}, {[]int{0, 100, 0, 5}, 11}, {powerOfBase(50), 441}, {append(sameLimbs(49, 0), 100000000), 449}, {sameLimbs(50, top), 0},
		{append([]int{500000000}, sameLimbs(49, top)...), 8},
	}
	for _, c := range cases {
		if got := impl.NatZeros(c.a); got != c.want {
			t.Errorf("NatZeros(%v) = %d, not %d", c.a, got, c.want)
		}
	}
	for _, a := range manyNats() {
		text := bigOf(a).String()
		want := len(text) - len(strings.TrimRight(text, "0"))
		if len(a) == 0 {
			want = 0
		}
		if got := impl.NatZeros(a); got != want {
			t.Errorf("NatZeros(%v) = %d, not %d", a, got, want)
		}
	}
	for k := range 450 {
		if got := impl.NatZeros(tenLimbs(k)); got != k {
			t.Errorf("NatZeros(10^%d) = %d", k, got)
		}
	}
}

func TestNatEven(t *testing.T) {
	cases := []struct {
		a    []int
		want bool
	}{
		{nil, true}, {[]int{}, true}, {[]int{1}, false}, {[]int{2}, true}, {[]int{3}, false}, {[]int{10}, true}, {[]int{top}, false}, {[]int{top - 1}, true},
		{[]int{0, 1}, true}, {[]int{0, 7, 3}, true}, {[]int{1, 2}, false}, {[]int{2, 1}, true}, {[]int{8, top, top}, true}, {[]int{5, 4, 8}, false},
		{sameLimbs(50, top), false}, {append([]int{4}, sameLimbs(49, top)...), true}, {append([]int{3}, sameLimbs(49, 2)...), false},
	}
	for _, c := range cases {
		if got := impl.NatEven(c.a); got != c.want {
			t.Errorf("NatEven(%v) = %v", c.a, got)
		}
	}
	for _, a := range manyNats() {
		if got, want := impl.NatEven(a), bigOf(a).Bit(0) == 0; got != want {
			t.Errorf("NatEven(%v) = %v", a, got)
		}
		if _, rest := impl.NatDiv(a, []int{2}); impl.NatEven(a) != (len(rest) == 0) {
			t.Errorf("NatEven(%v) = %v, but the rest is %v", a, impl.NatEven(a), rest)
		}
	}
}

// An argument that is not a nat gives zero values, beside whichever exponent. The pairs of nats are in TestNatInvalid.
func TestDivInvalid(t *testing.T) {
	for _, bad := range badNats() {
		if n := impl.NatZeros(bad); n != 0 {
			t.Errorf("NatZeros(%v) = %d", bad, n)
		}
		if impl.NatEven(bad) {
			t.Errorf("NatEven(%v) = true", bad)
		}
		for _, k := range append(badPowers(), 0, 1, 9, 440, 441, 449) {
			checkNat(t, impl.NatScale(bad, k), nil, "NatScale", bad, []int{k})
			quotient, rest := impl.NatCut(bad, k)
			checkNat(t, quotient, nil, "quotient of NatCut", bad, []int{k})
			checkNat(t, rest, nil, "rest of NatCut", bad, []int{k})
		}
	}
}

// scalings lists the functions of a nat and an exponent; those with two results stand for each of them.
func scalings() map[string]func([]int, int) []int {
	return map[string]func([]int, int) []int{
		"NatScale":           impl.NatScale,
		"quotient of NatCut": func(a []int, k int) []int { quotient, _ := impl.NatCut(a, k); return quotient },
		"rest of NatCut":     func(a []int, k int) []int { _, rest := impl.NatCut(a, k); return rest },
	}
}

// Chapter 1, as TestNatLeavesArguments and TestNatResultsAreTheirOwn have it for the pairs of nats.
func TestScalingLeavesArguments(t *testing.T) {
	for _, a := range slices.Concat(smallNats(), largeNats(), badNats()) {
		arg, memory := roomy(a)
		before := slices.Clone(memory)
		impl.NatZeros(arg)
		impl.NatEven(arg)
		for name, f := range scalings() {
			for _, k := range []int{-1, 0, 1, 9, 17, 18, 200, 440, 441} {
				overwrite(f(arg, k))
				if !slices.Equal(memory, before) {
					t.Fatalf("%s of %v and %d changed its argument or shares its memory", name, a, k)
				}
				other, _ := roomy(a)
				got := f(other, k)
				want := slices.Clone(got)
				overwrite(other)
				if !slices.Equal(got, want) {
					t.Fatalf("%s of %v and %d shares memory with its argument", name, a, k)
				}
			}
		}
	}
}

// checkApart overwrites each of two results with the capacity behind it and looks at the other one.
func checkApart(t *testing.T, name string, call func() ([]int, []int)) {
	t.Helper()
	quotient, rest := call()
	wantQuotient, wantRest := slices.Clone(quotient), slices.Clone(rest)
	overwrite(quotient)
	if !slices.Equal(rest, wantRest) {
		t.Errorf("%s: the rest shares memory with the quotient", name)
	}
	quotient, rest = call()
	overwrite(rest)
	if !slices.Equal(quotient, wantQuotient) {
		t.Errorf("%s: the quotient shares memory with the rest", name)
	}
}

func TestDivResultsAreApart(t *testing.T) {
	for _, a := range slices.Concat(smallNats(), largeNats()) {
		for _, b := range slices.Concat(smallNats(), largeNats()) {
			checkApart(t, "NatDiv", func() ([]int, []int) { return impl.NatDiv(a, b) })
		}
		for k := range 441 {
			checkApart(t, "NatCut", func() ([]int, []int) { return impl.NatCut(a, k) })
		}
	}
}

// Two calls with the same arguments share no memory either.
func TestTenResultsAreNew(t *testing.T) {
	for k := range 450 {
		first := impl.NatTen(k)
		overwrite(impl.NatTen(k))
		checkNat(t, first, tenLimbs(k), "NatTen", []int{k})
		checkNat(t, impl.NatTen(k), tenLimbs(k), "NatTen", []int{k})
	}
}
