package tests

import (
	"math"
	"math/big"
	"regexp"
	"slices"
	"strings"
	"testing"

	"loop.example/g00793/impl"
)

func plus(limbs ...int) impl.Signed {
	return impl.Signed{Mag: limbs}
}

func minus(limbs ...int) impl.Signed {
	return impl.Signed{Neg: true, Mag: limbs}
}

func bigSigned(x impl.Signed) *big.Int {
	n := bigOf(x.Mag)
	if x.Neg {
		n.Neg(n)
	}
	return n
}

// limitedSigned is the zero value for a number with more than MaxLimbs limbs, as the results of the chapter are.
func limitedSigned(n *big.Int) impl.Signed {
	mag := limitedLimbs(new(big.Int).Abs(n))
	return impl.Signed{Neg: n.Sign() < 0 && len(mag) > 0, Mag: mag}
}

// opposite is written without the functions under test.
func opposite(x impl.Signed) impl.Signed {
	return impl.Signed{Neg: !x.Neg && len(x.Mag) > 0, Mag: slices.Clone(x.Mag)}
}

// bothSigns makes two integers of every nat, and one of 0.
func bothSigns(nats [][]int) []impl.Signed {
	var all []impl.Signed
	for _, a := range nats {
		all = append(all, plus(a...))
		if len(a) > 0 {
			all = append(all, minus(a...))
		}
	}
	return all
}

func smallInts() []impl.Signed { return bothSigns(smallNats()) }

func manyInts() []impl.Signed { return bothSigns(manyNats()) }

// limitInts are small and large, but few enough for all pairs to be tried in the tests of memory and of invalid arguments.
func limitInts() []impl.Signed { return bothSigns(slices.Concat(smallNats(), largeNats())) }

func badInts() []impl.Signed {
	all := []impl.Signed{{Neg: true}, {Neg: true, Mag: []int{}}}
	for _, a := range badNats() {
		all = append(all, plus(a...), minus(a...))
	}
	return all
}

func sameSigned(x impl.Signed, y impl.Signed) bool {
	return x.Neg == y.Neg && slices.Equal(x.Mag, y.Mag)
}

func cloneSigned(x impl.Signed) impl.Signed {
	return impl.Signed{Neg: x.Neg, Mag: slices.Clone(x.Mag)}
}

func checkInt(t *testing.T, got impl.Signed, want impl.Signed, call string, args ...impl.Signed) {
	t.Helper()
	if !sameSigned(got, want) {
		t.Errorf("%s of %v = %v, not %v", call, args, got, want)
	}
}

// intPairs lists the functions that make an integer of two; those of one integer ignore the second one.
func intPairs() map[string]func(impl.Signed, impl.Signed) impl.Signed {
	return map[string]func(impl.Signed, impl.Signed) impl.Signed{
		"IntAdd": impl.IntAdd, "IntSub": impl.IntSub, "IntMul": impl.IntMul,
		"IntNeg":        func(x impl.Signed, _ impl.Signed) impl.Signed { return impl.IntNeg(x) },
		"IntAbs":        func(x impl.Signed, _ impl.Signed) impl.Signed { return impl.IntAbs(x) },
		"IntSum of one": func(x impl.Signed, _ impl.Signed) impl.Signed { return impl.IntSum([]impl.Signed{x}) },
		"IntSum of two": func(x impl.Signed, y impl.Signed) impl.Signed { return impl.IntSum([]impl.Signed{x, y}) },
	}
}

func TestIntOk(t *testing.T) {
	for _, x := range append(manyInts(), impl.Signed{}, plus(), impl.Signed{Mag: []int{}}) {
		if !impl.IntOk(x) {
			t.Errorf("IntOk(%v) = false", x)
		}
	}
	for _, x := range badInts() {
		if impl.IntOk(x) {
			t.Errorf("IntOk(%v) = true", x)
		}
	}
}

func TestIntOf(t *testing.T) {
	cases := []struct {
		n    int
		want impl.Signed
	}{
		{0, plus()}, {1, plus(1)}, {-1, minus(1)}, {top, plus(top)}, {-top, minus(top)},
		{impl.Base, plus(0, 1)}, {-impl.Base, minus(0, 1)}, {-impl.Base - 1, minus(1, 1)},
		{-999999999999999999, minus(top, top)}, {-1000000000000000000, minus(0, 0, 1)},
		{math.MaxInt, plus(854775807, 223372036, 9)}, {-math.MaxInt, minus(854775807, 223372036, 9)},
		{math.MinInt, minus(854775808, 223372036, 9)}, {math.MinInt + 2, minus(854775806, 223372036, 9)},
	}
	for _, c := range cases {
		if got := impl.IntOf(c.n); !sameSigned(got, c.want) {
			t.Errorf("IntOf(%d) = %v, not %v", c.n, got, c.want)
		}
	}
	for _, n := range edgeInts() {
		if got, want := impl.IntOf(n), limitedSigned(big.NewInt(int64(n))); !sameSigned(got, want) {
			t.Errorf("IntOf(%d) = %v, not %v", n, got, want)
		}
	}
}

func TestIntNum(t *testing.T) {
	cases := []struct {
		x    impl.Signed
		want int
		ok   bool
	}{
		{plus(), 0, true}, {impl.Signed{Mag: []int{}}, 0, true}, {plus(7), 7, true}, {minus(7), -7, true},
		{minus(0, 1), -impl.Base, true}, {minus(3, 12), -12000000003, true},
		{plus(854775807, 223372036, 9), math.MaxInt, true}, {minus(854775807, 223372036, 9), -math.MaxInt, true},
		{plus(854775808, 223372036, 9), 0, false}, {minus(854775808, 223372036, 9), 0, false},
		{minus(854775809, 223372036, 9), 0, false}, {minus(709551615, 446744073, 18), 0, false}, {minus(709551617, 446744073, 18), 0, false},
		{minus(0, 0, 10), 0, false}, {minus(0, 0, 0, 1), 0, false}, {minus(sameLimbs(50, top)...), 0, false},
	}
	for _, c := range cases {
		if got, ok := impl.IntNum(c.x); got != c.want || ok != c.ok {
			t.Errorf("IntNum(%v) = %d, %v, not %d, %v", c.x, got, ok, c.want, c.ok)
		}
	}
	for _, x := range manyInts() {
		ok := bigOf(x.Mag).IsInt64()
		want := 0
		if ok {
			want = int(bigSigned(x).Int64())
		}
		if got, gotOk := impl.IntNum(x); got != want || gotOk != ok {
			t.Errorf("IntNum(%v) = %d, %v", x, got, gotOk)
		}
	}
}

// The smallest int is the only one that IntNum does not give back.
func TestIntNumOfIntOf(t *testing.T) {
	for _, n := range edgeInts() {
		want, wantOk := n, n != math.MinInt
		if !wantOk {
			want = 0
		}
		if got, ok := impl.IntNum(impl.IntOf(n)); got != want || ok != wantOk {
			t.Errorf("IntNum(IntOf(%d)) = %d, %v", n, got, ok)
		}
	}
}

func TestIntNegAndAbs(t *testing.T) {
	cases := []struct {
		x   impl.Signed
		neg impl.Signed
		abs impl.Signed
	}{
		{plus(), plus(), plus()}, {impl.Signed{Mag: []int{}}, plus(), plus()}, {plus(5), minus(5), plus(5)}, {minus(5), plus(5), plus(5)},
		{plus(0, 1), minus(0, 1), plus(0, 1)}, {minus(0, 1), plus(0, 1), plus(0, 1)},
		{plus(sameLimbs(50, top)...), minus(sameLimbs(50, top)...), plus(sameLimbs(50, top)...)},
		{minus(sameLimbs(50, top)...), plus(sameLimbs(50, top)...), plus(sameLimbs(50, top)...)},
	}
	for _, c := range cases {
		checkInt(t, impl.IntNeg(c.x), c.neg, "IntNeg", c.x)
		checkInt(t, impl.IntAbs(c.x), c.abs, "IntAbs", c.x)
	}
	for _, x := range manyInts() {
		checkInt(t, impl.IntNeg(x), opposite(x), "IntNeg", x)
		checkInt(t, impl.IntNeg(impl.IntNeg(x)), x, "-(-x)", x)
		checkInt(t, impl.IntAbs(x), plus(x.Mag...), "IntAbs", x)
	}
}

func TestIntAddAndSub(t *testing.T) {
	cases := []struct {
		x    impl.Signed
		y    impl.Signed
		sum  impl.Signed
		diff impl.Signed
	}{
		{plus(), plus(), plus(), plus()}, {plus(), plus(4), plus(4), minus(4)}, {plus(), minus(4), minus(4), plus(4)},
		{plus(4), plus(), plus(4), plus(4)}, {minus(4), plus(), minus(4), minus(4)},
		{plus(5), plus(3), plus(8), plus(2)}, {plus(5), minus(3), plus(2), plus(8)}, {minus(5), plus(3), minus(2), minus(8)}, {minus(5), minus(3), minus(8), minus(2)},
		{plus(3), plus(5), plus(8), minus(2)}, {plus(3), minus(5), minus(2), plus(8)}, {minus(3), plus(5), plus(2), minus(8)}, {minus(3), minus(5), minus(8), plus(2)},
		{plus(5), plus(5), plus(10), plus()}, {plus(5), minus(5), plus(), plus(10)}, {minus(5), plus(5), plus(), minus(10)}, {minus(5), minus(5), minus(10), plus()},
		{minus(top), minus(1), minus(0, 1), minus(top - 1)}, {minus(0, 1), plus(1), minus(top), minus(1, 1)}, {plus(1), minus(0, 1), minus(top), plus(1, 1)},
		{minus(top, top, top), minus(1), minus(0, 0, 0, 1), minus(top-1, top, top)}, {plus(1), minus(0, 0, 0, 1), minus(top, top, top), plus(1, 0, 0, 1)},
		{minus(0, 0, 0, 1), plus(1), minus(top, top, top), minus(1, 0, 0, 1)}, {plus(7, 5, 9), minus(6, 5, 9), plus(1), plus(13, 10, 18)},
		{minus(7, 5, 9), plus(7, 4, 9), minus(0, 1), minus(14, 9, 18)},
	}
	for _, c := range cases {
		checkInt(t, impl.IntAdd(c.x, c.y), c.sum, "IntAdd", c.x, c.y)
		checkInt(t, impl.IntSub(c.x, c.y), c.diff, "IntSub", c.x, c.y)
	}
	for _, x := range manyInts() {
		for _, y := range manyInts() {
			checkInt(t, impl.IntAdd(x, y), limitedSigned(new(big.Int).Add(bigSigned(x), bigSigned(y))), "IntAdd", x, y)
			checkInt(t, impl.IntSub(x, y), limitedSigned(new(big.Int).Sub(bigSigned(x), bigSigned(y))), "IntSub", x, y)
		}
	}
}

// Sums and differences with exactly MaxLimbs limbs, and with one more, whatever the signs and the order.
func TestIntAddAndSubAtTheLimit(t *testing.T) {
	greatest, before := sameLimbs(50, top), append([]int{top - 1}, sameLimbs(49, top)...)
	middle := append(make([]int, 49), half)
	cases := []struct {
		a    []int
		b    []int
		want []int
	}{
		{before, []int{1}, greatest}, {greatest, nil, greatest}, {sameLimbs(49, top), []int{1}, powerOfBase(50)},
		{greatest, []int{1}, nil}, {greatest, greatest, nil}, {greatest, sameLimbs(49, top), nil}, {before, []int{2}, nil}, {middle, middle, nil},
	}
	for _, c := range cases {
		for _, pair := range [][][]int{{c.a, c.b}, {c.b, c.a}} {
			x, y := plus(pair[0]...), plus(pair[1]...)
			want := plus(c.want...)
			checkInt(t, impl.IntAdd(x, y), want, "x + y", x, y)
			checkInt(t, impl.IntSub(x, opposite(y)), want, "x - (-y)", x, y)
			checkInt(t, impl.IntAdd(opposite(x), opposite(y)), opposite(want), "-x + -y", x, y)
			checkInt(t, impl.IntSub(opposite(x), y), opposite(want), "-x - y", x, y)
		}
	}
	checkInt(t, impl.IntSub(plus(powerOfBase(50)...), plus(1)), plus(sameLimbs(49, top)...), "Base^49 - 1")
	checkInt(t, impl.IntSub(plus(1), plus(powerOfBase(50)...)), minus(sameLimbs(49, top)...), "1 - Base^49")
	checkInt(t, impl.IntSub(plus(greatest...), plus(greatest...)), plus(), "the greatest number minus itself")
}

func TestIntMul(t *testing.T) {
	cases := []struct {
		x    impl.Signed
		y    impl.Signed
		want impl.Signed
	}{
		{plus(), plus(), plus()}, {plus(), plus(5), plus()}, {plus(), minus(5), plus()}, {minus(5), plus(), plus()}, {minus(5), impl.Signed{Mag: []int{}}, plus()},
		{plus(), minus(sameLimbs(50, top)...), plus()}, {minus(sameLimbs(50, top)...), plus(), plus()},
		{plus(6), plus(7), plus(42)}, {plus(6), minus(7), minus(42)}, {minus(6), plus(7), minus(42)}, {minus(6), minus(7), plus(42)},
		{minus(6), plus(1), minus(6)}, {minus(6), minus(1), plus(6)}, {plus(6), minus(1), minus(6)}, {minus(1), minus(1), plus(1)},
		{minus(half), plus(2), minus(0, 1)}, {minus(top), minus(top), plus(1, top-1)}, {minus(top, top), plus(top, top), minus(1, 0, top-1, top)},
		{minus(0, 3), plus(4, 0, 5), minus(0, 12, 0, 15)},
	}
	for _, c := range cases {
		checkInt(t, impl.IntMul(c.x, c.y), c.want, "IntMul", c.x, c.y)
	}
	for _, x := range manyInts() {
		for _, y := range manyInts() {
			checkInt(t, impl.IntMul(x, y), limitedSigned(new(big.Int).Mul(bigSigned(x), bigSigned(y))), "IntMul", x, y)
		}
	}
}

// A product of powers of Base with m and n limbs has m + n - 1 limbs.
func TestIntMulAtTheLimit(t *testing.T) {
	for m := 2; m <= 50; m++ {
		a, fits, longer := powerOfBase(m), powerOfBase(51-m), powerOfBase(52-m)
		checkInt(t, impl.IntMul(minus(a...), plus(fits...)), minus(powerOfBase(50)...), "IntMul", minus(a...), plus(fits...))
		checkInt(t, impl.IntMul(plus(a...), minus(fits...)), minus(powerOfBase(50)...), "IntMul", plus(a...), minus(fits...))
		checkInt(t, impl.IntMul(minus(a...), minus(fits...)), plus(powerOfBase(50)...), "IntMul", minus(a...), minus(fits...))
		checkInt(t, impl.IntMul(minus(a...), plus(longer...)), plus(), "IntMul", minus(a...), plus(longer...))
		checkInt(t, impl.IntMul(minus(a...), minus(longer...)), plus(), "IntMul", minus(a...), minus(longer...))
	}
	middle := append(make([]int, 49), half)
	checkInt(t, impl.IntMul(minus(middle...), minus(1)), plus(middle...), "IntMul")
	checkInt(t, impl.IntMul(minus(middle...), plus(2)), plus(), "IntMul")
	checkInt(t, impl.IntMul(minus(sameLimbs(50, top)...), plus(sameLimbs(50, top)...)), plus(), "IntMul")
}

func TestIntCmpAndSign(t *testing.T) {
	greatest := sameLimbs(50, top)
	cases := []struct {
		x    impl.Signed
		y    impl.Signed
		want int
	}{
		{plus(), impl.Signed{Mag: []int{}}, 0}, {plus(), plus(1), -1}, {plus(), minus(1), 1}, {plus(5), plus(5), 0}, {minus(5), minus(5), 0},
		{plus(5), minus(5), 1}, {minus(5), plus(5), -1}, {minus(5), minus(4), -1}, {minus(4), minus(5), 1}, {minus(5), plus(4), -1}, {plus(4), minus(5), 1},
		{minus(0, 1), minus(top), -1}, {minus(top), minus(0, 1), 1}, {minus(9, 1), minus(0, 2), 1}, {minus(0, 2), minus(9, 1), -1},
		{minus(1, 8, 3), minus(2, 7, 3), -1}, {minus(greatest...), plus(greatest...), -1}, {plus(greatest...), minus(greatest...), 1},
		{minus(greatest...), minus(greatest...), 0}, {plus(greatest...), minus(1), 1},
	}
	for _, c := range cases {
		if got := impl.IntCmp(c.x, c.y); got != c.want {
			t.Errorf("IntCmp(%v, %v) = %d, not %d", c.x, c.y, got, c.want)
		}
	}
	for _, x := range append(manyInts(), impl.Signed{Mag: []int{}}) {
		if got, want := impl.IntSign(x), bigSigned(x).Sign(); got != want {
			t.Errorf("IntSign(%v) = %d, not %d", x, got, want)
		}
		for _, y := range manyInts() {
			if got, want := impl.IntCmp(x, y), bigSigned(x).Cmp(bigSigned(y)); got != want {
				t.Errorf("IntCmp(%v, %v) = %d, not %d", x, y, got, want)
			}
		}
	}
}

func TestIntSum(t *testing.T) {
	greatest := plus(sameLimbs(50, top)...)
	least := opposite(greatest)
	cases := []struct {
		l    []impl.Signed
		want impl.Signed
	}{
		{nil, plus()}, {[]impl.Signed{}, plus()}, {[]impl.Signed{plus()}, plus()}, {[]impl.Signed{minus(5)}, minus(5)},
		{[]impl.Signed{minus(5), plus(3), minus(7)}, minus(9)}, {[]impl.Signed{plus(5), plus(3), plus(), minus(7)}, plus(1)},
		{[]impl.Signed{plus(5), minus(5)}, plus()}, {[]impl.Signed{minus(5), plus(5)}, plus()}, {[]impl.Signed{plus(5), minus(2), minus(3)}, plus()},
		{[]impl.Signed{plus(5), minus(5), minus(4)}, minus(4)}, {[]impl.Signed{minus(top), minus(1), plus(0, 1), plus(2)}, plus(2)},
		{[]impl.Signed{greatest}, greatest}, {[]impl.Signed{greatest, least}, plus()}, {[]impl.Signed{least, greatest, plus(3)}, plus(3)},
		{[]impl.Signed{greatest, minus(1), plus(1)}, greatest}, {[]impl.Signed{least, greatest, least}, least},
		{[]impl.Signed{minus(powerOfBase(50)...), plus(1)}, minus(sameLimbs(49, top)...)},
	}
	for _, c := range cases {
		checkInt(t, impl.IntSum(c.l), c.want, "IntSum", c.l...)
	}
	var l []impl.Signed
	total := new(big.Int)
	for _, x := range smallInts() {
		l = append(l, x, x, plus(12))
		total.Add(total, new(big.Int).Mul(bigSigned(x), big.NewInt(2)))
		total.Add(total, big.NewInt(12))
		checkInt(t, impl.IntSum(l), limitedSigned(total), "IntSum", l...)
	}
}

// IntAdd is 0 where a sum is too large, so IntSum goes on from 0 there.
func TestIntSumAtTheLimit(t *testing.T) {
	greatest := plus(sameLimbs(50, top)...)
	least := opposite(greatest)
	cases := []struct {
		l    []impl.Signed
		want impl.Signed
	}{
		{[]impl.Signed{greatest, plus(1)}, plus()}, {[]impl.Signed{plus(1), greatest}, plus()}, {[]impl.Signed{minus(1), least}, plus()},
		{[]impl.Signed{greatest, plus(1), plus(5)}, plus(5)}, {[]impl.Signed{least, minus(1), plus(5), minus(7)}, minus(2)},
		{[]impl.Signed{greatest, plus(1), minus(1)}, minus(1)}, {[]impl.Signed{greatest, minus(1), plus(2), plus(4)}, plus(4)},
		{[]impl.Signed{greatest, greatest, least}, least}, {[]impl.Signed{greatest, greatest, greatest}, greatest},
		{[]impl.Signed{greatest, greatest, greatest, greatest}, plus()},
	}
	for _, c := range cases {
		checkInt(t, impl.IntSum(c.l), c.want, "IntSum", c.l...)
	}
	for _, x := range limitInts() {
		for _, y := range limitInts() {
			l := []impl.Signed{x, y, greatest, minus(3), y, x}
			want := new(big.Int)
			for _, z := range l {
				want = bigSigned(limitedSigned(want.Add(want, bigSigned(z))))
			}
			checkInt(t, impl.IntSum(l), limitedSigned(want), "IntSum", l...)
		}
	}
}

// An element that is not valid counts wherever it is, also before and behind a partial sum that is too large.
func TestIntSumInvalid(t *testing.T) {
	greatest := plus(sameLimbs(50, top)...)
	for _, bad := range badInts() {
		lists := [][]impl.Signed{
			{bad}, {bad, bad}, {bad, plus(5)}, {bad, plus(5), minus(7)}, {plus(5), bad, minus(7)}, {plus(5), minus(7), bad},
			{plus(), bad}, {bad, plus()}, {plus(5), minus(5), bad}, {greatest, plus(1), bad, plus(4)}, {bad, greatest, plus(1), plus(4)}, {greatest, plus(1), plus(4), bad},
		}
		for _, l := range lists {
			checkInt(t, impl.IntSum(l), plus(), "IntSum", l...)
		}
	}
}

func TestIntStr(t *testing.T) {
	cases := []struct {
		x    impl.Signed
		want string
	}{
		{plus(), "0"}, {impl.Signed{Mag: []int{}}, "0"}, {plus(7), "7"}, {minus(7), "-7"}, {minus(120), "-120"}, {minus(3, 12), "-12000000003"},
		{minus(0, 1), "-1000000000"}, {plus(1, 0, 5), "5000000000000000001"}, {minus(854775808, 223372036, 9), "-9223372036854775808"},
		{minus(powerOfBase(50)...), "-1" + strings.Repeat("0", 441)}, {minus(sameLimbs(50, top)...), "-" + strings.Repeat("9", 450)},
	}
	for _, c := range cases {
		if got := impl.IntStr(c.x); got != c.want {
			t.Errorf("IntStr(%v) = %q, not %q", c.x, got, c.want)
		}
	}
	for _, x := range manyInts() {
		if got, want := impl.IntStr(x), bigSigned(x).String(); got != want {
			t.Errorf("IntStr(%v) = %q, not %q", x, got, want)
		}
	}
	for _, n := range edgeInts() {
		if got, want := impl.IntStr(impl.IntOf(n)), impl.IntText(n); got != want {
			t.Errorf("IntStr(IntOf(%d)) = %q", n, got)
		}
	}
}

// An integer is recovered from its IntStr.
func TestStrIntAccepts(t *testing.T) {
	for _, x := range manyInts() {
		if got, ok := impl.StrInt(bigSigned(x).String()); !ok || !sameSigned(got, x) {
			t.Errorf("StrInt of %v = %v, %v", x, got, ok)
		}
	}
	for size := 1; size <= 450; size++ {
		for _, digits := range []string{strings.Repeat("9", size), "1" + strings.Repeat("0", size-1)} {
			x, _ := new(big.Int).SetString(digits, 10)
			for s, want := range map[string]*big.Int{digits: x, "-" + digits: new(big.Int).Neg(x)} {
				if got, ok := impl.StrInt(s); !ok || !sameSigned(got, limitedSigned(want)) {
					t.Errorf("StrInt(%q) = %v, %v", s, got, ok)
				}
			}
		}
	}
}

func TestStrIntRejects(t *testing.T) {
	magnitudes := []string{
		"", "00", "01", "007", "000000000", "0999999999", "01000000000", " ", " 1", "1 ", "1\n", "\n1", "- 1", "1-", "1-1", "1.0", "1e3", "0x10", "1_000", "1,000",
		"a", "1a", "a1", "\x00", "1\x00", "\xff", "1\xff", "\xff1", "1\xc3", "\xb1", "\u0661", "\uff11", "\u22121", "1/2",
		strings.Repeat("9", 451), "1" + strings.Repeat("0", 450), "0" + strings.Repeat("9", 449), "0" + strings.Repeat("9", 450),
		strings.Repeat("0", 450), strings.Repeat("7", 100000), strings.Repeat("9", 449) + "x",
	}
	cases := []string{"-0", "--", "--0", "--1", "---1", "+", "+0", "+1", "-+1", "+-1", " -1", "-1 ", "-1\n", "1-"}
	for _, s := range magnitudes {
		cases = append(cases, s, "-"+s, "--"+s, "+"+s)
	}
	for _, s := range cases {
		if got, ok := impl.StrInt(s); ok || !sameSigned(got, impl.Signed{}) {
			t.Errorf("StrInt(%q) = %v, %v", s, got, ok)
		}
	}
}

// StrInt accepts no string but the IntStr of an integer.
func TestStrIntAcceptsOnlyIntStr(t *testing.T) {
	form := regexp.MustCompile(`\A(0|-?[1-9][0-9]*)\z`)
	behind := []string{"", "00000000", "123456789", "000000000000000000"}
	for _, head := range texts("-+019 a\n\xff", 4) {
		for _, tail := range behind {
			s := head + tail
			x, ok := impl.StrInt(s)
			if ok != form.MatchString(s) || !ok && !sameSigned(x, impl.Signed{}) {
				t.Errorf("StrInt(%q) = %v, %v", s, x, ok)
			}
			if ok && (!impl.IntOk(x) || impl.IntStr(x) != s) {
				t.Errorf("IntStr(StrInt(%q)) = %q", s, impl.IntStr(x))
			}
		}
	}
}

// P7: 0 and 1 are neutral, every integer has an opposite, and a subtraction takes back an addition.
func TestIntNeutralAndInverse(t *testing.T) {
	zero, one := plus(), plus(1)
	for _, x := range manyInts() {
		checkInt(t, impl.IntAdd(x, zero), x, "x + 0", x)
		checkInt(t, impl.IntAdd(zero, x), x, "0 + x", x)
		checkInt(t, impl.IntSub(x, zero), x, "x - 0", x)
		checkInt(t, impl.IntSub(zero, x), opposite(x), "0 - x", x)
		checkInt(t, impl.IntAdd(x, impl.IntNeg(x)), zero, "x + (-x)", x)
		checkInt(t, impl.IntAdd(impl.IntNeg(x), x), zero, "-x + x", x)
		checkInt(t, impl.IntSub(x, x), zero, "x - x", x)
		checkInt(t, impl.IntMul(x, one), x, "x * 1", x)
		checkInt(t, impl.IntMul(one, x), x, "1 * x", x)
		checkInt(t, impl.IntMul(x, minus(1)), opposite(x), "x * -1", x)
		checkInt(t, impl.IntMul(x, zero), zero, "x * 0", x)
		checkInt(t, impl.IntMul(zero, x), zero, "0 * x", x)
	}
	for _, x := range smallInts() {
		for _, y := range smallInts() {
			checkInt(t, impl.IntSub(impl.IntAdd(x, y), y), x, "x + y - y", x, y)
			checkInt(t, impl.IntAdd(impl.IntSub(x, y), y), x, "x - y + y", x, y)
		}
	}
}

// P7: sums and products commute, and signs come out of them, also where they are too large.
func TestIntCommutes(t *testing.T) {
	for _, x := range manyInts() {
		for _, y := range manyInts() {
			sum, diff, product := impl.IntAdd(x, y), impl.IntSub(x, y), impl.IntMul(x, y)
			checkInt(t, impl.IntAdd(y, x), sum, "y + x", x, y)
			checkInt(t, impl.IntMul(y, x), product, "y * x", x, y)
			checkInt(t, impl.IntSub(y, x), impl.IntNeg(diff), "y - x", x, y)
			checkInt(t, impl.IntAdd(x, opposite(y)), diff, "x + (-y)", x, y)
			checkInt(t, impl.IntMul(x, opposite(y)), impl.IntNeg(product), "x * (-y)", x, y)
			checkInt(t, impl.IntMul(impl.IntAbs(x), impl.IntAbs(y)), impl.IntAbs(product), "|x| * |y|", x, y)
		}
	}
}

// P7: sums and products associate, and a product distributes over a sum and a difference.
func TestIntAssociates(t *testing.T) {
	for _, x := range smallInts() {
		for _, y := range smallInts() {
			sum, product := impl.IntAdd(x, y), impl.IntMul(x, y)
			for _, z := range smallInts() {
				checkInt(t, impl.IntAdd(sum, z), impl.IntAdd(x, impl.IntAdd(y, z)), "x + y + z", x, y, z)
				checkInt(t, impl.IntMul(product, z), impl.IntMul(x, impl.IntMul(y, z)), "x * y * z", x, y, z)
				xz := impl.IntMul(x, z)
				checkInt(t, impl.IntMul(x, impl.IntAdd(y, z)), impl.IntAdd(product, xz), "x * (y + z)", x, y, z)
				checkInt(t, impl.IntMul(x, impl.IntSub(y, z)), impl.IntSub(product, xz), "x * (y - z)", x, y, z)
			}
		}
	}
}

// P7: the order is a total one, sums keep it, and products keep or reverse it as the sign of the factor says.
func TestIntOrder(t *testing.T) {
	for _, x := range smallInts() {
		for _, y := range smallInts() {
			order := impl.IntCmp(x, y)
			if order != -impl.IntCmp(y, x) || (order == 0) != sameSigned(x, y) {
				t.Errorf("IntCmp(%v, %v) = %d", x, y, order)
			}
			if order != impl.IntSign(impl.IntSub(x, y)) || order != impl.IntCmp(opposite(y), opposite(x)) {
				t.Errorf("IntCmp(%v, %v) = %d", x, y, order)
			}
			for _, z := range smallInts() {
				if order <= 0 && impl.IntCmp(y, z) <= 0 && impl.IntCmp(x, z) > 0 {
					t.Errorf("%v, %v, %v are not in order", x, y, z)
				}
				if got := impl.IntCmp(impl.IntAdd(x, z), impl.IntAdd(y, z)); got != order {
					t.Errorf("x + z and y + z of %v, %v, %v: %d", x, y, z, got)
				}
				if got := impl.IntCmp(impl.IntMul(x, z), impl.IntMul(y, z)); got != order*impl.IntSign(z) {
					t.Errorf("x * z and y * z of %v, %v, %v: %d", x, y, z, got)
				}
			}
		}
	}
}

// An argument that is not valid gives zero values, beside whichever other argument.
func TestIntInvalid(t *testing.T) {
	for _, bad := range badInts() {
		if n, ok := impl.IntNum(bad); n != 0 || ok {
			t.Errorf("IntNum(%v) = %d, %v", bad, n, ok)
		}
		if sign, text := impl.IntSign(bad), impl.IntStr(bad); sign != 0 || text != "" {
			t.Errorf("IntSign and IntStr of %v: %d, %q", bad, sign, text)
		}
		checkInt(t, impl.IntNeg(bad), plus(), "IntNeg", bad)
		checkInt(t, impl.IntAbs(bad), plus(), "IntAbs", bad)
		for _, other := range slices.Concat(limitInts(), badInts()) {
			if n, m := impl.IntCmp(bad, other), impl.IntCmp(other, bad); n != 0 || m != 0 {
				t.Errorf("IntCmp of %v and %v: %d, %d", bad, other, n, m)
			}
			for _, name := range []string{"IntAdd", "IntSub", "IntMul", "IntSum of two"} {
				f := intPairs()[name]
				checkInt(t, f(bad, other), plus(), name, bad, other)
				checkInt(t, f(other, bad), plus(), name, other, bad)
			}
		}
	}
}

// roomySigned returns a copy of x with marked capacity behind its magnitude, and the whole memory.
func roomySigned(x impl.Signed) (impl.Signed, []int) {
	mag, memory := roomy(x.Mag)
	return impl.Signed{Neg: x.Neg, Mag: mag}, memory
}

// Chapter 1: no function changes an argument or the capacity behind it, and a result shares no memory with an argument.
func TestIntLeavesArguments(t *testing.T) {
	for _, x := range append(limitInts(), badInts()...) {
		arg, memory := roomySigned(x)
		before := slices.Clone(memory)
		impl.IntOk(arg)
		impl.IntNum(arg)
		impl.IntSign(arg)
		impl.IntStr(arg)
		for _, y := range limitInts() {
			other, otherMemory := roomySigned(y)
			otherBefore := slices.Clone(otherMemory)
			impl.IntCmp(arg, other)
			impl.IntCmp(other, arg)
			for name, f := range intPairs() {
				overwrite(f(arg, other).Mag)
				overwrite(f(other, arg).Mag)
				overwrite(f(arg, arg).Mag)
				if !slices.Equal(memory, before) || !slices.Equal(otherMemory, otherBefore) {
					t.Fatalf("%s of %v and %v changed an argument or shares its memory", name, x, y)
				}
			}
		}
		if !slices.Equal(memory, before) {
			t.Fatalf("the argument %v was changed", x)
		}
	}
}

// A result stays as it is when the arguments are changed afterwards, also where it equals one of them.
func TestIntResultsAreTheirOwn(t *testing.T) {
	for _, x := range limitInts() {
		for _, y := range []impl.Signed{plus(), {Mag: []int{}}, plus(1), minus(1), plus(top, top), x, opposite(x)} {
			for name, f := range intPairs() {
				first, _ := roomySigned(x)
				second, _ := roomySigned(y)
				got := f(first, second)
				want := cloneSigned(got)
				overwrite(first.Mag)
				overwrite(second.Mag)
				if !sameSigned(got, want) {
					t.Fatalf("%s of %v and %v shares memory with an argument", name, x, y)
				}
			}
		}
	}
}

func roomyInts(l []impl.Signed) marked[impl.Signed] {
	return roomyList(l, []impl.Signed{minus(-77), plus(77), {Neg: true}}, roomySigned, sameSigned)
}

// IntSum changes neither the elements, nor their magnitudes, nor what lies behind the slice.
func TestIntSumLeavesElements(t *testing.T) {
	lists := [][]impl.Signed{
		nil, {plus(5)}, {minus(sameLimbs(50, top)...)}, {plus(), minus(5)}, {minus(5), plus()}, {minus(5), plus(5), minus(7, 1)},
		{plus(sameLimbs(50, top)...), plus(1), minus(3)}, {{Neg: true}, plus(5)}, {plus(5), plus(0)}, limitInts(), badInts(),
	}
	for _, l := range lists {
		elements := roomyInts(l)
		got := impl.IntSum(elements.arg)
		want := cloneSigned(got)
		overwrite(got.Mag)
		if elements.changed() {
			t.Fatalf("IntSum of %v changed its argument or shares its memory", l)
		}
		got = impl.IntSum(elements.arg)
		elements.overwrite(minus(-88))
		if !sameSigned(got, want) {
			t.Fatalf("IntSum of %v shares memory with its argument", l)
		}
	}
}

// Two calls with the same arguments share no memory either.
func TestIntResultsAreNew(t *testing.T) {
	for _, x := range limitInts() {
		calls := map[string]func() impl.Signed{
			"IntOf":  func() impl.Signed { return impl.IntOf(math.MinInt) },
			"StrInt": func() impl.Signed { read, _ := impl.StrInt(bigSigned(x).String()); return read },
		}
		for name, f := range intPairs() {
			calls[name] = func() impl.Signed { return f(x, plus(1)) }
		}
		for name, call := range calls {
			first := call()
			want := cloneSigned(first)
			overwrite(call().Mag)
			if !sameSigned(first, want) || !sameSigned(call(), want) {
				t.Errorf("%s: results share memory", name)
			}
		}
	}
}
