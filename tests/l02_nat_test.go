package tests

import (
	"math"
	"math/big"
	"math/rand/v2"
	"regexp"
	"slices"
	"strings"
	"testing"

	"loop.example/g00793/impl"
)

const top = impl.Base - 1

// The tests compute with math/big; these two functions are the chapter's representation, written again.
func bigOf(a []int) *big.Int {
	x := new(big.Int)
	for i := len(a) - 1; i >= 0; i-- {
		x.Mul(x, big.NewInt(1000000000))
		x.Add(x, big.NewInt(int64(a[i])))
	}
	return x
}

func limbsOf(x *big.Int) []int {
	var limbs []int
	rest, limb := new(big.Int).Set(x), new(big.Int)
	for rest.Sign() > 0 {
		rest.DivMod(rest, big.NewInt(1000000000), limb)
		limbs = append(limbs, int(limb.Int64()))
	}
	return limbs
}

// limitedLimbs is empty for a number with more than MaxLimbs limbs, as the results of the chapter are, and for a negative one.
func limitedLimbs(x *big.Int) []int {
	limbs := limbsOf(x)
	if len(limbs) > 50 {
		return nil
	}
	return limbs
}

func sameLimbs(n int, limb int) []int {
	return slices.Repeat([]int{limb}, n)
}

// powerOfBase has n limbs, of which only the last one is not 0.
func powerOfBase(n int) []int {
	return append(make([]int, n-1), 1)
}

// aroundMaxInt holds 9223372036854775807, the number before it and the one after it.
func aroundMaxInt() [][]int {
	return [][]int{{854775806, 223372036, 9}, {854775807, 223372036, 9}, {854775808, 223372036, 9}}
}

// smallNats have at most 16 limbs, so that products of three of them are nats.
func smallNats() [][]int {
	return append(aroundMaxInt(),
		nil, []int{}, []int{1}, []int{2}, []int{9}, []int{10}, []int{top - 1}, []int{top},
		[]int{0, 1}, []int{1, 1}, []int{top, 1}, []int{0, top}, []int{top, top},
		[]int{0, 0, 1}, []int{top, 0, 1}, []int{0, top, top}, []int{top, top, top}, []int{5, 0, 0, 7},
		[]int{123456789, 987654321, 100000000, 10}, sameLimbs(16, top), powerOfBase(16))
}

func largeNats() [][]int {
	var all [][]int
	for _, n := range []int{17, 24, 25, 26, 48, 49, 50} {
		all = append(all, sameLimbs(n, top), sameLimbs(n, 1), powerOfBase(n))
	}
	return append(all, append([]int{1}, sameLimbs(49, top)...), append(sameLimbs(49, 0), top))
}

func randomNat(r *rand.Rand, limbs int) []int {
	a := make([]int, limbs)
	for i := range a {
		a[i] = r.IntN(1000000000)
	}
	if limbs > 0 {
		a[limbs-1] = 1 + r.IntN(top)
	}
	return a
}

// manyNats adds a fixed choice of others, of all lengths.
func manyNats() [][]int {
	all := slices.Concat(smallNats(), largeNats())
	r := rand.New(rand.NewPCG(3, 12))
	for n := range 51 {
		all = append(all, randomNat(r, n))
	}
	return all
}

func badNats() [][]int {
	return [][]int{
		{-1}, {-top}, {math.MinInt}, {1, -1}, {-1, 1}, {1, -1, 1}, {0, 0, -1},
		{impl.Base}, {impl.Base + 1}, {math.MaxInt}, {1, impl.Base}, {impl.Base, 1}, {1, impl.Base, 1},
		{0}, {0, 0}, {1, 0}, {1, 1, 0}, {1, 0, 0}, make([]int, 50), append(sameLimbs(49, top), 0),
		sameLimbs(51, 1), sameLimbs(51, top), powerOfBase(51), make([]int, 51), append(sameLimbs(50, 1), 0), sameLimbs(500, 7),
	}
}

func checkNat(t *testing.T, got []int, want []int, call string, args ...[]int) {
	t.Helper()
	if !slices.Equal(got, want) {
		t.Errorf("%s of %v = %v, not %v", call, args, got, want)
	}
}

func TestNatLimits(t *testing.T) {
	if impl.Base != 1000000000 || impl.MaxLimbs != 50 {
		t.Errorf("Base = %d, MaxLimbs = %d", impl.Base, impl.MaxLimbs)
	}
}

func TestNatOk(t *testing.T) {
	for _, a := range manyNats() {
		if !impl.NatOk(a) {
			t.Errorf("NatOk(%v) = false", a)
		}
	}
	for _, a := range badNats() {
		if impl.NatOk(a) {
			t.Errorf("NatOk(%v) = true", a)
		}
	}
	for place := range 50 {
		for _, limb := range []int{-1, impl.Base} {
			a := sameLimbs(50, 1)
			a[place] = limb
			if impl.NatOk(a) {
				t.Errorf("NatOk(%v) = true", a)
			}
		}
	}
}

func TestNatOf(t *testing.T) {
	cases := []struct {
		n    int
		want []int
	}{
		{0, nil}, {1, []int{1}}, {top, []int{top}}, {impl.Base, []int{0, 1}}, {impl.Base + 1, []int{1, 1}},
		{999999999999999999, []int{top, top}}, {1000000000000000000, []int{0, 0, 1}},
		{math.MaxInt, []int{854775807, 223372036, 9}},
		{-1, nil}, {-impl.Base, nil}, {math.MinInt, nil}, {math.MinInt + 1, nil},
	}
	for _, c := range cases {
		if got := impl.NatOf(c.n); !slices.Equal(got, c.want) {
			t.Errorf("NatOf(%d) = %v, not %v", c.n, got, c.want)
		}
	}
	for _, n := range edgeInts() {
		if got, want := impl.NatOf(n), limitedLimbs(big.NewInt(int64(n))); !slices.Equal(got, want) {
			t.Errorf("NatOf(%d) = %v, not %v", n, got, want)
		}
	}
}

func TestNatInt(t *testing.T) {
	cases := []struct {
		a    []int
		want int
		ok   bool
	}{
		{nil, 0, true}, {[]int{}, 0, true}, {[]int{7}, 7, true}, {[]int{top}, top, true}, {[]int{0, 1}, impl.Base, true},
		{[]int{3, 12}, 12000000003, true}, {[]int{top, top}, 999999999999999999, true},
		{[]int{854775807, 223372036, 9}, math.MaxInt, true},
		{[]int{854775808, 223372036, 9}, 0, false}, {[]int{0, 223372037, 9}, 0, false}, {[]int{0, 0, 10}, 0, false},
		{[]int{709551616, 446744073, 18}, 0, false}, {[]int{709551617, 446744073, 18}, 0, false},
		{[]int{top, top, top}, 0, false}, {[]int{0, 0, 0, 1}, 0, false},
	}
	for _, c := range cases {
		if got, ok := impl.NatInt(c.a); got != c.want || ok != c.ok {
			t.Errorf("NatInt(%v) = %d, %v, not %d, %v", c.a, got, ok, c.want, c.ok)
		}
	}
	for _, a := range manyNats() {
		x := bigOf(a)
		n, ok := impl.NatInt(a)
		if ok != x.IsInt64() || ok && int64(n) != x.Int64() || !ok && n != 0 {
			t.Errorf("NatInt(%v) = %d, %v", a, n, ok)
		}
	}
	for _, n := range edgeInts() {
		got, ok := impl.NatInt(limbsOf(big.NewInt(int64(n))))
		if !ok || got != max(n, 0) {
			t.Errorf("NatInt of %d = %d, %v", n, got, ok)
		}
	}
}

func TestNatCmp(t *testing.T) {
	cases := []struct {
		a    []int
		b    []int
		want int
	}{
		{nil, nil, 0}, {nil, []int{}, 0}, {nil, []int{1}, -1}, {[]int{1}, []int{}, 1}, {[]int{5}, []int{5}, 0},
		{[]int{4}, []int{5}, -1}, {[]int{top}, []int{0, 1}, -1}, {[]int{0, 1}, []int{top}, 1},
		{[]int{9, 1}, []int{0, 2}, -1}, {[]int{0, 2}, []int{9, 1}, 1}, {[]int{1, 7, 3}, []int{2, 7, 3}, -1},
		{[]int{1, 8, 3}, []int{2, 7, 3}, 1}, {sameLimbs(50, top), sameLimbs(50, top), 0},
		{sameLimbs(50, top), append([]int{top - 1}, sameLimbs(49, top)...), 1},
	}
	for _, c := range cases {
		if got := impl.NatCmp(c.a, c.b); got != c.want {
			t.Errorf("NatCmp(%v, %v) = %d, not %d", c.a, c.b, got, c.want)
		}
	}
	for _, a := range manyNats() {
		for _, b := range manyNats() {
			if got, want := impl.NatCmp(a, b), bigOf(a).Cmp(bigOf(b)); got != want {
				t.Errorf("NatCmp(%v, %v) = %d, not %d", a, b, got, want)
			}
		}
	}
}

func TestNatAdd(t *testing.T) {
	cases := []struct {
		a    []int
		b    []int
		want []int
	}{
		{nil, nil, nil}, {[]int{}, nil, nil}, {[]int{2}, []int{3}, []int{5}}, {[]int{2}, nil, []int{2}}, {nil, []int{2}, []int{2}},
		{[]int{top}, []int{1}, []int{0, 1}}, {[]int{top}, []int{top}, []int{top - 1, 1}},
		{[]int{top, top, top}, []int{1}, []int{0, 0, 0, 1}}, {[]int{1}, []int{top, top, top}, []int{0, 0, 0, 1}},
		{[]int{top, 5}, []int{1}, []int{0, 6}}, {[]int{top, 0, 4}, []int{1}, []int{0, 1, 4}},
	}
	for _, c := range cases {
		checkNat(t, impl.NatAdd(c.a, c.b), c.want, "NatAdd", c.a, c.b)
	}
	for _, a := range manyNats() {
		for _, b := range manyNats() {
			want := limitedLimbs(new(big.Int).Add(bigOf(a), bigOf(b)))
			checkNat(t, impl.NatAdd(a, b), want, "NatAdd", a, b)
		}
	}
}

func TestNatAddAtTheLimit(t *testing.T) {
	greatest := sameLimbs(50, top)
	before := append([]int{top - 1}, sameLimbs(49, top)...)
	half := append(make([]int, 49), 500000000)
	checkNat(t, impl.NatAdd(before, []int{1}), greatest, "NatAdd", before)
	checkNat(t, impl.NatAdd([]int{1}, before), greatest, "NatAdd", before)
	checkNat(t, impl.NatAdd(greatest, nil), greatest, "NatAdd", greatest)
	checkNat(t, impl.NatAdd(sameLimbs(49, top), []int{1}), powerOfBase(50), "NatAdd")
	for _, pair := range [][][]int{{greatest, {1}}, {greatest, greatest}, {greatest, sameLimbs(49, top)}, {before, {2}}, {half, half}} {
		checkNat(t, impl.NatAdd(pair[0], pair[1]), nil, "NatAdd", pair...)
		checkNat(t, impl.NatAdd(pair[1], pair[0]), nil, "NatAdd", pair...)
	}
}

func TestNatSub(t *testing.T) {
	cases := []struct {
		a    []int
		b    []int
		want []int
	}{
		{nil, nil, nil}, {[]int{5}, nil, []int{5}}, {[]int{5}, []int{3}, []int{2}}, {[]int{5}, []int{5}, nil},
		{[]int{3}, []int{5}, nil}, {nil, []int{1}, nil}, {[]int{top}, []int{0, 1}, nil}, {[]int{0, 1}, []int{0, 1}, nil},
		{[]int{0, 1}, []int{1}, []int{top}}, {[]int{0, 0, 0, 1}, []int{1}, []int{top, top, top}},
		{[]int{0, 0, 0, 2}, []int{1}, []int{top, top, top, 1}}, {[]int{5, 0, 0, 1}, []int{5}, []int{0, 0, 0, 1}},
		{[]int{0, 0, 1}, []int{top, top}, []int{1}}, {[]int{0, 0, 0, 1}, []int{0, top, top}, []int{0, 1}},
		{[]int{7, 5, 9}, []int{7, 4, 9}, []int{0, 1}}, {[]int{7, 5, 9}, []int{6, 5, 9}, []int{1}},
		{[]int{7, 5, 9}, []int{8, 5, 9}, nil}, {powerOfBase(50), []int{1}, sameLimbs(49, top)},
		{sameLimbs(50, top), sameLimbs(50, top), nil}, {sameLimbs(50, top), powerOfBase(50), append(sameLimbs(49, top), top-1)},
	}
	for _, c := range cases {
		checkNat(t, impl.NatSub(c.a, c.b), c.want, "NatSub", c.a, c.b)
	}
	for _, a := range manyNats() {
		for _, b := range manyNats() {
			want := limitedLimbs(new(big.Int).Sub(bigOf(a), bigOf(b)))
			checkNat(t, impl.NatSub(a, b), want, "NatSub", a, b)
		}
	}
}

func TestNatMul(t *testing.T) {
	cases := []struct {
		a    []int
		b    []int
		want []int
	}{
		{nil, nil, nil}, {nil, []int{5}, nil}, {[]int{5}, []int{}, nil}, {[]int{5}, []int{1}, []int{5}}, {[]int{6}, []int{7}, []int{42}},
		{[]int{0, 1}, []int{0, 1}, []int{0, 0, 1}}, {[]int{500000000}, []int{2}, []int{0, 1}}, {[]int{top}, []int{top}, []int{1, top - 1}},
		{[]int{top, top}, []int{top, top}, []int{1, 0, top - 1, top}}, {[]int{1, 1}, []int{top, top}, []int{top, top - 1, 0, 1}},
		{[]int{0, 3}, []int{4, 0, 5}, []int{0, 12, 0, 15}},
	}
	for _, c := range cases {
		checkNat(t, impl.NatMul(c.a, c.b), c.want, "NatMul", c.a, c.b)
	}
	for _, a := range manyNats() {
		for _, b := range manyNats() {
			want := limitedLimbs(new(big.Int).Mul(bigOf(a), bigOf(b)))
			checkNat(t, impl.NatMul(a, b), want, "NatMul", a, b)
		}
	}
}

// A product of factors with m and n limbs has m + n limbs or one less.
func TestNatMulAtTheLimit(t *testing.T) {
	for m := 1; m <= 50; m++ {
		fits := powerOfBase(51 - m)
		checkNat(t, impl.NatMul(powerOfBase(m), fits), powerOfBase(50), "NatMul", fits)
		if m > 1 {
			longer := powerOfBase(52 - m)
			checkNat(t, impl.NatMul(powerOfBase(m), longer), nil, "NatMul", longer)
		}
		nines := sameLimbs(51-m, top)
		checkNat(t, impl.NatMul(sameLimbs(m, top), nines), nil, "NatMul", nines)
		if m < 50 {
			nines = sameLimbs(50-m, top)
			want := limbsOf(new(big.Int).Mul(bigOf(sameLimbs(m, top)), bigOf(nines)))
			if len(want) != 50 {
				t.Fatalf("the product has %d limbs", len(want))
			}
			checkNat(t, impl.NatMul(sameLimbs(m, top), nines), want, "NatMul", nines)
		}
	}
	half := append(make([]int, 49), 500000000)
	checkNat(t, impl.NatMul(half, []int{1}), half, "NatMul", half)
	checkNat(t, impl.NatMul(half, []int{2}), nil, "NatMul", half)
	checkNat(t, impl.NatMul(sameLimbs(50, top), sameLimbs(50, top)), nil, "NatMul")
	checkNat(t, impl.NatMul(sameLimbs(50, top), nil), nil, "NatMul")
}

// P7: 0 and 1 are neutral, and a subtraction takes back an addition.
func TestNatNeutralAndInverse(t *testing.T) {
	for _, a := range manyNats() {
		checkNat(t, impl.NatAdd(a, nil), a, "a + 0", a)
		checkNat(t, impl.NatAdd([]int{}, a), a, "0 + a", a)
		checkNat(t, impl.NatSub(a, nil), a, "a - 0", a)
		checkNat(t, impl.NatSub(a, a), nil, "a - a", a)
		checkNat(t, impl.NatMul(a, []int{1}), a, "a * 1", a)
		checkNat(t, impl.NatMul([]int{1}, a), a, "1 * a", a)
		checkNat(t, impl.NatMul(a, nil), nil, "a * 0", a)
	}
	for _, a := range smallNats() {
		for _, b := range smallNats() {
			sum := impl.NatAdd(a, b)
			checkNat(t, impl.NatSub(sum, b), a, "a + b - b", a, b)
			checkNat(t, impl.NatSub(sum, a), b, "a + b - a", a, b)
		}
	}
}

// P7: sums and products commute, also where they are too large.
func TestNatCommutes(t *testing.T) {
	for _, a := range manyNats() {
		for _, b := range manyNats() {
			checkNat(t, impl.NatAdd(a, b), impl.NatAdd(b, a), "a + b", a, b)
			checkNat(t, impl.NatMul(a, b), impl.NatMul(b, a), "a * b", a, b)
		}
	}
}

// P7: sums and products associate, and a product distributes over a sum.
func TestNatAssociates(t *testing.T) {
	for _, a := range smallNats() {
		for _, b := range smallNats() {
			for _, c := range smallNats() {
				checkNat(t, impl.NatAdd(impl.NatAdd(a, b), c), impl.NatAdd(a, impl.NatAdd(b, c)), "a + b + c", a, b, c)
				checkNat(t, impl.NatMul(impl.NatMul(a, b), c), impl.NatMul(a, impl.NatMul(b, c)), "a * b * c", a, b, c)
				whole := impl.NatMul(a, impl.NatAdd(b, c))
				checkNat(t, whole, impl.NatAdd(impl.NatMul(a, b), impl.NatMul(a, c)), "a * (b + c)", a, b, c)
			}
		}
	}
}

// P7: the order is a total one, and sums and products keep it.
func TestNatOrder(t *testing.T) {
	for _, a := range smallNats() {
		for _, b := range smallNats() {
			order := impl.NatCmp(a, b)
			if order != -impl.NatCmp(b, a) || (order == 0) != slices.Equal(a, b) {
				t.Errorf("NatCmp(%v, %v) = %d", a, b, order)
			}
			for _, c := range smallNats() {
				if order <= 0 && impl.NatCmp(b, c) <= 0 && impl.NatCmp(a, c) > 0 {
					t.Errorf("%v, %v, %v are not in order", a, b, c)
				}
				if got := impl.NatCmp(impl.NatAdd(a, c), impl.NatAdd(b, c)); got != order {
					t.Errorf("a + c and b + c of %v, %v, %v: %d", a, b, c, got)
				}
				if got := impl.NatCmp(impl.NatMul(a, c), impl.NatMul(b, c)); len(c) > 0 && got != order {
					t.Errorf("a * c and b * c of %v, %v, %v: %d", a, b, c, got)
				}
			}
		}
	}
}

func TestNatDigits(t *testing.T) {
	cases := []struct {
		a    []int
		want int
	}{
		{nil, 0}, {[]int{}, 0}, {[]int{1}, 1}, {[]int{9}, 1}, {[]int{10}, 2}, {[]int{99999999}, 8}, {[]int{100000000}, 9}, {[]int{top}, 9},
		{[]int{0, 1}, 10}, {[]int{0, 99}, 11}, {[]int{top, top}, 18}, {[]int{0, 0, 1}, 19}, {powerOfBase(50), 442}, {sameLimbs(50, top), 450},
	}
	for _, c := range cases {
		if got := impl.NatDigits(c.a); got != c.want {
			t.Errorf("NatDigits(%v) = %d, not %d", c.a, got, c.want)
		}
	}
	for _, a := range manyNats() {
		if got, want := impl.NatDigits(a), len(strings.TrimPrefix(bigOf(a).String(), "0")); got != want {
			t.Errorf("NatDigits(%v) = %d, not %d", a, got, want)
		}
	}
}

func TestNatText(t *testing.T) {
	cases := []struct {
		a    []int
		want string
	}{
		{nil, "0"}, {[]int{}, "0"}, {[]int{7}, "7"}, {[]int{120}, "120"}, {[]int{top}, "999999999"}, {[]int{0, 1}, "1000000000"},
		{[]int{3, 12}, "12000000003"}, {[]int{100000000, 1}, "1100000000"}, {[]int{0, 0, 5}, "5000000000000000000"},
		{[]int{1, 0, 5}, "5000000000000000001"}, {[]int{854775807, 223372036, 9}, "9223372036854775807"},
		{[]int{854775808, 223372036, 9}, "9223372036854775808"},
		{powerOfBase(50), "1" + strings.Repeat("0", 441)}, {sameLimbs(50, top), strings.Repeat("9", 450)},
	}
	for _, c := range cases {
		if got := impl.NatText(c.a); got != c.want {
			t.Errorf("NatText(%v) = %q, not %q", c.a, got, c.want)
		}
	}
	for _, a := range manyNats() {
		if got, want := impl.NatText(a), bigOf(a).String(); got != want {
			t.Errorf("NatText(%v) = %q, not %q", a, got, want)
		}
	}
}

// A nat is recovered from its NatText.
func TestTextNatAccepts(t *testing.T) {
	for _, a := range manyNats() {
		got, ok := impl.TextNat(bigOf(a).String())
		if !ok || !slices.Equal(got, a) {
			t.Errorf("TextNat of %v = %v, %v", a, got, ok)
		}
	}
	for size := 1; size <= 450; size++ {
		for _, s := range []string{strings.Repeat("9", size), "1" + strings.Repeat("0", size-1), "8" + strings.Repeat("0", size-1)} {
			x, _ := new(big.Int).SetString(s, 10)
			if got, ok := impl.TextNat(s); !ok || !slices.Equal(got, limbsOf(x)) {
				t.Errorf("TextNat(%q) = %v, %v", s, got, ok)
			}
		}
	}
}

func TestTextNatRejects(t *testing.T) {
	cases := []string{
		"", "-", "+", "-0", "+0", "-1", "+1", "-12000000003", "00", "01", "012", "000000000", "0000000000", "0999999999", "01000000000",
		" ", " 1", "1 ", "1\n", "\n1", "1.0", "1e3", "0x10", "1_000", "1,000", "a", "1a", "a1", "1-1", "/", ":", "1/2",
		"\x00", "1\x00", "\xff", "1\xff", "\xff1", "1\xc3", "\xb1", "\u0661", "\uff11", "\u00b2",
		"123456789a", "a123456789", "12345678 123456789", "123456789-123456789", "1\xff3456789123456789", "-234567891234567891",
		strings.Repeat("9", 451), strings.Repeat("9", 459), "1" + strings.Repeat("0", 450), "0" + strings.Repeat("9", 449), "0" + strings.Repeat("9", 450),
		strings.Repeat("0", 450), strings.Repeat("0", 451), strings.Repeat("0", 1000) + "1", strings.Repeat("7", 100000),
		strings.Repeat("9", 449) + "x", "x" + strings.Repeat("9", 449),
	}
	for _, s := range cases {
		if got, ok := impl.TextNat(s); ok || len(got) != 0 {
			t.Errorf("TextNat(%q) = %v, %v", s, got, ok)
		}
	}
}

// TextNat accepts no string but the NatText of a nat.
func TestTextNatAcceptsOnlyNatText(t *testing.T) {
	form := regexp.MustCompile(`\A(0|[1-9][0-9]*)\z`)
	behind := []string{"", "00000000", "123456789", "000000000000000000"}
	for _, head := range texts("-+019 a\n\xff", 4) {
		for _, tail := range behind {
			s := head + tail
			a, ok := impl.TextNat(s)
			if ok != form.MatchString(s) || !ok && len(a) != 0 {
				t.Errorf("TextNat(%q) = %v, %v", s, a, ok)
			}
			if ok && impl.NatText(a) != s {
				t.Errorf("NatText(TextNat(%q)) = %q", s, impl.NatText(a))
			}
		}
	}
}

func checkZeros(t *testing.T, a []int) {
	t.Helper()
	if n, ok := impl.NatInt(a); n != 0 || ok {
		t.Errorf("NatInt(%v) = %d, %v", a, n, ok)
	}
	if n := impl.NatDigits(a); n != 0 {
		t.Errorf("NatDigits(%v) = %d", a, n)
	}
	if s := impl.NatText(a); s != "" {
		t.Errorf("NatText(%v) = %q", a, s)
	}
}

// natPairs lists the functions of two nats that return nats, of this chapter and the next one; NatDiv stands there for each of its results.
func natPairs() map[string]func([]int, []int) []int {
	return map[string]func([]int, []int) []int{
		"NatAdd": impl.NatAdd, "NatSub": impl.NatSub, "NatMul": impl.NatMul, "NatGcd": impl.NatGcd,
		"quotient of NatDiv": func(a []int, b []int) []int { quotient, _ := impl.NatDiv(a, b); return quotient },
		"rest of NatDiv":     func(a []int, b []int) []int { _, rest := impl.NatDiv(a, b); return rest },
	}
}

// An argument that is not a nat gives zero values, beside whichever other argument.
func TestNatInvalid(t *testing.T) {
	for _, bad := range badNats() {
		checkZeros(t, bad)
		for _, other := range slices.Concat(smallNats(), largeNats(), badNats()) {
			if n, m := impl.NatCmp(bad, other), impl.NatCmp(other, bad); n != 0 || m != 0 {
				t.Errorf("NatCmp of %v and %v: %d, %d", bad, other, n, m)
			}
			for name, f := range natPairs() {
				checkNat(t, f(bad, other), nil, name, bad, other)
				checkNat(t, f(other, bad), nil, name, other, bad)
			}
		}
	}
}

// roomy returns a copy of a with marked capacity behind it, and the whole memory.
func roomy(a []int) ([]int, []int) {
	memory := append(slices.Clone(a), sameLimbs(60, -77)...)
	return memory[:len(a)], memory
}

func overwrite(a []int) { overwriteList(a, -88) }

// Chapter 1: no function changes an argument or the capacity behind it, and a result shares no memory with an argument.
func TestNatLeavesArguments(t *testing.T) {
	for _, a := range slices.Concat(smallNats(), largeNats(), badNats()) {
		arg, memory := roomy(a)
		before := slices.Clone(memory)
		impl.NatOk(arg)
		impl.NatInt(arg)
		impl.NatDigits(arg)
		impl.NatText(arg)
		for _, b := range slices.Concat(smallNats(), largeNats()) {
			other, otherMemory := roomy(b)
			otherBefore := slices.Clone(otherMemory)
			impl.NatCmp(arg, other)
			impl.NatCmp(other, arg)
			for name, f := range natPairs() {
				overwrite(f(arg, other))
				overwrite(f(other, arg))
				overwrite(f(arg, arg))
				if !slices.Equal(memory, before) || !slices.Equal(otherMemory, otherBefore) {
					t.Fatalf("%s of %v and %v changed an argument or shares its memory", name, a, b)
				}
			}
		}
		if !slices.Equal(memory, before) {
			t.Fatalf("the argument %v was changed", a)
		}
	}
}

// A result stays as it is when the arguments are changed afterwards.
func TestNatResultsAreTheirOwn(t *testing.T) {
	for _, a := range slices.Concat(smallNats(), largeNats()) {
		for _, b := range [][]int{nil, {}, {1}, {top, top}, a} {
			for name, f := range natPairs() {
				x, _ := roomy(a)
				y, _ := roomy(b)
				got := f(x, y)
				want := slices.Clone(got)
				overwrite(x)
				overwrite(y)
				if !slices.Equal(got, want) {
					t.Fatalf("%s of %v and %v shares memory with an argument", name, a, b)
				}
			}
		}
	}
}

// Two calls with the same arguments share no memory either.
func TestNatResultsAreNew(t *testing.T) {
	for _, a := range slices.Concat(smallNats(), largeNats()) {
		calls := map[string]func() []int{
			"NatOf":   func() []int { return impl.NatOf(math.MaxInt) },
			"TextNat": func() []int { read, _ := impl.TextNat(bigOf(a).String()); return read },
			"NatAdd":  func() []int { return impl.NatAdd(a, nil) },
			"NatSub":  func() []int { return impl.NatSub(a, nil) },
			"NatMul":  func() []int { return impl.NatMul(a, []int{1}) },
		}
		for name, call := range calls {
			first := call()
			want := slices.Clone(first)
			overwrite(call())
			if !slices.Equal(first, want) || !slices.Equal(call(), want) {
				t.Errorf("%s: results share memory", name)
			}
		}
	}
}
