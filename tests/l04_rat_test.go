package tests

import (
	"math"
	"math/big"
	"math/rand"
	"slices"
	"strings"
	"testing"

	"loop.example/g00830/impl"
)

// ratio is the fraction of two integers as they are given.
func ratio(num impl.BigInt, den ...int) impl.Rat { return impl.Rat{Num: num, Den: den} }

// clonedRat is the same fraction in other memory.
func clonedRat(r impl.Rat) impl.Rat {
	return impl.Rat{Num: cloned(r.Num), Den: slices.Clone(r.Den)}
}

// sameRat does not rely on RatEqual.
func sameRat(r, s impl.Rat) bool { return sameBigInt(r.Num, s.Num) && slices.Equal(r.Den, s.Den) }

func isZeroRat(r impl.Rat) bool { return sameRat(r, impl.Rat{}) }

// toBigRat is the value of a fraction, computed without the program.
func toBigRat(r impl.Rat) *big.Rat {
	return new(big.Rat).SetFrac(signedBig(r.Num), toBig(r.Den))
}

// isRat tells whether got is want in lowest terms, or the zero value if want
// is too large for a fraction. It does not rely on RatOk.
func isRat(got impl.Rat, want *big.Rat) bool {
	most := toBig(greatest(impl.MaxRat))
	if want.Denom().Cmp(most) > 0 || want.Num().CmpAbs(most) > 0 {
		return isZeroRat(got)
	}
	return isSigned(got.Num, want.Num()) && isBig(got.Den, want.Denom())
}

// lowest is the fraction of two numbers of at most MaxRat limbs, in lowest
// terms without the program's division.
func lowest(num impl.BigInt, den []int) impl.Rat {
	return ratOfBig(new(big.Rat).SetFrac(signedBig(num), toBig(den)))
}

// ratOfBig is not valid if r is too large.
func ratOfBig(r *big.Rat) impl.Rat {
	return impl.Rat{Num: impl.BigInt{Neg: r.Sign() < 0, Mag: limbsOf(r.Num())}, Den: limbsOf(r.Denom())}
}

// limbsOf is the list of limbs of the magnitude of n.
func limbsOf(n *big.Int) []int {
	var limbs []int
	rest, limb := new(big.Int).Abs(n), new(big.Int)
	for rest.Sign() > 0 {
		rest.QuoRem(rest, big.NewInt(impl.Base), limb)
		limbs = append(limbs, int(limb.Int64()))
	}
	return limbs
}

// edgeRats are fractions of numbers at the edges of limbs and of MaxRat.
func edgeRats() []impl.Rat {
	limbs := [][]int{{1}, {2}, {3}, {6}, {impl.Base / 2}, {impl.Base - 1}, {0, 1}, {1, 1}, {impl.Base - 1, impl.Base - 1}, {7, 0, 2}}
	for _, n := range []int{12, 13, 23, 24} {
		limbs = append(limbs, greatest(n), power(n-1), append(repeated(n-1, 0), impl.Base/2))
	}
	rats := []impl.Rat{ratio(plus(), 1)}
	for _, a := range limbs {
		for _, b := range limbs {
			if r := ratio(plus(a...), b...); sameRat(lowest(r.Num, r.Den), r) {
				rats = append(rats, clonedRat(r), clonedRat(ratio(minus(a...), b...)))
			}
		}
	}
	return rats
}

// randomRat has up to n limbs on both sides before it is in lowest terms.
func randomRat(random *rand.Rand, n int) impl.Rat {
	den := randomNumber(random, n)
	if len(den) == 0 {
		den = []int{1}
	}
	return lowest(randomBigInt(random, n), den)
}

// notRats are values that are not valid.
func notRats() []impl.Rat {
	list := []impl.Rat{
		{}, ratio(plus(1)), ratio(minus(1)), ratio(plus(7)), ratio(plus(0, 1)), ratio(plus(1), []int{}...),
		ratio(plus(2), 2), ratio(plus(2), 4), ratio(minus(6), 4), ratio(plus(3), 9), ratio(plus(0, 1), 0, 1), ratio(minus(0, 1), 2), ratio(plus(7), 7),
		ratio(plus(greatest(24)...), greatest(24)...), ratio(plus(greatest(24)...), 3),
		ratio(plus(), 2), ratio(plus(), 0, 1), ratio(impl.BigInt{Mag: []int{}}, 3), ratio(minus(), 1), ratio(minus(), 2), ratio(minus()),
		ratio(plus(power(24)...), 1), ratio(minus(power(24)...), 1), ratio(plus(greatest(25)...), 7), ratio(plus(1), power(24)...), ratio(plus(7), greatest(25)...),
		ratio(plus(power(30)...), greatest(40)...), ratio(plus(power(59)...), 1), ratio(plus(1), power(59)...), ratio(plus(power(24)...), greatest(25)...),
	}
	for _, a := range notNatural() {
		list = append(list, ratio(plus(1), a...), ratio(minus(2), slices.Clone(a)...), ratio(plus(a...), 1), ratio(minus(slices.Clone(a)...), 7))
	}
	return list
}

// eachPairOfRats calls try with all pairs of edge fractions, and with random
// pairs of all sizes, of which many share a denominator or are close together.
func eachPairOfRats(try func(r, s impl.Rat)) {
	edges := edgeRats()
	for i, r := range edges {
		for k, s := range edges {
			// Every pair would take too long, but each sum of indices comes up.
			if i < 20 || k < 20 || (i+k)%17 == 0 {
				try(r, s)
			}
		}
	}
	random := rand.New(rand.NewSource(9))
	for k := range 2500 {
		r, s := randomRat(random, k%impl.MaxRat+1), randomRat(random, k*7%impl.MaxRat+1)
		try(r, s)
		try(r, lowest(s.Num, r.Den))
		try(r, lowest(r.Num, s.Den))
		try(r, impl.Rat{Num: impl.BigInt{Neg: !r.Num.Neg && len(r.Num.Mag) > 0, Mag: r.Num.Mag}, Den: r.Den})
		if len(r.Num.Mag) > 0 {
			try(r, impl.Rat{Num: impl.BigInt{Neg: r.Num.Neg, Mag: r.Den}, Den: r.Num.Mag})
		}
	}
}

func TestMaxRat(t *testing.T) {
	if impl.MaxRat != 24 {
		t.Errorf("MaxRat is %d", impl.MaxRat)
	}
}

func TestRatOk(t *testing.T) {
	good := append(edgeRats(), ratio(impl.BigInt{Mag: []int{}}, 1), ratio(plus(7), 1), ratio(minus(3), 2), ratio(plus(0, 1), 3),
		ratio(plus(greatest(24)...), power(23)...), ratio(minus(power(23)...), greatest(24)...), ratio(plus(1), greatest(24)...), ratio(minus(greatest(24)...), 1))
	for _, r := range good {
		if !impl.RatOk(r) {
			t.Errorf("RatOk(%v) is false", r)
		}
	}
	for _, r := range notRats() {
		if impl.RatOk(r) {
			t.Errorf("RatOk(%v) is true", r)
		}
	}
}

// TestRatOkOfSmall tries all small pairs: the ones in lowest terms are valid.
func TestRatOkOfSmall(t *testing.T) {
	for n := -40; n <= 40; n++ {
		for d := 0; d <= 40; d++ {
			divisor := new(big.Int).GCD(nil, nil, big.NewInt(int64(max(n, -n))), big.NewInt(int64(d)))
			want := d > 0 && divisor.Int64() == 1
			if got := impl.RatOk(impl.Rat{Num: impl.BigIntOf(n), Den: impl.NatOf(d)}); got != want {
				t.Errorf("RatOk(%d / %d) is %v", n, d, got)
			}
		}
	}
}

func TestRatMake(t *testing.T) {
	random := rand.New(rand.NewSource(10))
	for k := range 3000 {
		num, den := randomBigInt(random, k%impl.MaxLimbs+1), randomBigInt(random, k*7%impl.MaxLimbs+1)
		if len(den.Mag) == 0 {
			continue
		}
		want := new(big.Rat).SetFrac(signedBig(num), signedBig(den))
		if got := impl.RatMake(num, den); !isRat(got, want) {
			t.Errorf("RatMake(%v, %v) is %v, not %v", num, den, got, want)
		}
	}
}

// TestRatMakeOfMultiples has numbers that are too long until they are in
// lowest terms.
func TestRatMakeOfMultiples(t *testing.T) {
	random := rand.New(rand.NewSource(11))
	for k := range 1500 {
		r, factor := randomRat(random, k%impl.MaxRat+1), randomBigInt(random, k%36+1)
		if len(factor.Mag) == 0 {
			continue
		}
		num, den := impl.BigIntMul(r.Num, factor), impl.BigIntMul(plus(r.Den...), factor)
		if got := impl.RatMake(num, den); !sameRat(got, r) {
			t.Errorf("RatMake(%v, %v) is %v, not %v", num, den, got, r)
		}
	}
	most := plus(greatest(60)...)
	cases := []struct {
		num, den impl.BigInt
		want     impl.Rat
	}{
		{most, most, ratio(plus(1), 1)}, {minus(greatest(60)...), most, ratio(minus(1), 1)}, {plus(), most, ratio(plus(), 1)},
		{plus(), minus(greatest(60)...), ratio(plus(), 1)}, {plus(power(59)...), plus(power(36)...), ratio(plus(power(23)...), 1)},
		{plus(power(36)...), minus(power(59)...), ratio(minus(1), power(23)...)}, {plus(power(59)...), plus(power(35)...), impl.Rat{}},
		{plus(power(35)...), plus(power(59)...), impl.Rat{}}, {most, plus(1), impl.Rat{}}, {plus(1), most, impl.Rat{}}, {most, plus(7, 1), impl.Rat{}},
	}
	for i, c := range cases {
		if got := impl.RatMake(c.num, c.den); !sameRat(got, c.want) {
			t.Errorf("RatMake of case %d is %v, not %v", i, got, c.want)
		}
	}
}

func TestRatMakeRefuses(t *testing.T) {
	good := []impl.BigInt{{}, plus(1), minus(1), plus(7, 7), minus(greatest(60)...)}
	for _, x := range good {
		for _, zero := range []impl.BigInt{{}, {Mag: []int{}}} {
			if got := impl.RatMake(x, zero); !isZeroRat(got) {
				t.Errorf("RatMake(%v, 0) is %v", x, got)
			}
		}
	}
	for _, bad := range notBigInts() {
		for _, x := range append(good, bad) {
			if got := impl.RatMake(bad, x); !isZeroRat(got) {
				t.Errorf("RatMake(%v, %v) is %v", bad, x, got)
			}
			if got := impl.RatMake(x, bad); !isZeroRat(got) {
				t.Errorf("RatMake(%v, %v) is %v", x, bad, got)
			}
		}
	}
}

func TestRatOf(t *testing.T) {
	numbers := []int{math.MinInt, math.MinInt + 1, -math.MaxInt / 2, math.MaxInt, math.MaxInt - 1, impl.Base, -impl.Base, impl.Base * impl.Base, 1 << 62, -(1 << 62)}
	for n := -25; n <= 25; n++ {
		numbers = append(numbers, n)
	}
	for _, n := range numbers {
		for _, d := range numbers {
			got := impl.RatOf(n, d)
			if d == 0 {
				if !isZeroRat(got) {
					t.Errorf("RatOf(%d, 0) is %v", n, got)
				}
			} else if want := new(big.Rat).SetFrac(big.NewInt(int64(n)), big.NewInt(int64(d))); !isRat(got, want) {
				t.Errorf("RatOf(%d, %d) is %v, not %v", n, d, got, want)
			}
		}
		if got, want := impl.RatFromInt(n), new(big.Rat).SetInt64(int64(n)); !isRat(got, want) {
			t.Errorf("RatFromInt(%d) is %v", n, got)
		}
	}
	cases := []struct {
		n, d int
		want impl.Rat
	}{
		{6, -4, ratio(minus(3), 2)}, {-6, -4, ratio(plus(3), 2)}, {0, -7, ratio(plus(), 1)}, {5, 5, ratio(plus(1), 1)}, {5, -1, ratio(minus(5), 1)},
		{math.MinInt, math.MinInt, ratio(plus(1), 1)}, {math.MinInt, -1, ratio(plus(854775808, 223372036, 9), 1)}, {1, math.MinInt, ratio(minus(1), 854775808, 223372036, 9)},
	}
	for _, c := range cases {
		if got := impl.RatOf(c.n, c.d); !sameRat(got, c.want) {
			t.Errorf("RatOf(%d, %d) is %v, not %v", c.n, c.d, got, c.want)
		}
	}
}

func TestRatAdd(t *testing.T) {
	eachPairOfRats(func(r, s impl.Rat) {
		if got, want := impl.RatAdd(r, s), new(big.Rat).Add(toBigRat(r), toBigRat(s)); !isRat(got, want) {
			t.Errorf("RatAdd(%v, %v) is %v, not %v", r, s, got, want)
		}
	})
}

func TestRatSub(t *testing.T) {
	eachPairOfRats(func(r, s impl.Rat) {
		if got, want := impl.RatSub(r, s), new(big.Rat).Sub(toBigRat(r), toBigRat(s)); !isRat(got, want) {
			t.Errorf("RatSub(%v, %v) is %v, not %v", r, s, got, want)
		}
	})
}

func TestRatMul(t *testing.T) {
	eachPairOfRats(func(r, s impl.Rat) {
		if got, want := impl.RatMul(r, s), new(big.Rat).Mul(toBigRat(r), toBigRat(s)); !isRat(got, want) {
			t.Errorf("RatMul(%v, %v) is %v, not %v", r, s, got, want)
		}
	})
}

func TestRatDiv(t *testing.T) {
	eachPairOfRats(func(r, s impl.Rat) {
		got := impl.RatDiv(r, s)
		if len(s.Num.Mag) == 0 {
			if !isZeroRat(got) {
				t.Errorf("RatDiv(%v, 0) is %v", r, got)
			}
		} else if want := new(big.Rat).Quo(toBigRat(r), toBigRat(s)); !isRat(got, want) {
			t.Errorf("RatDiv(%v, %v) is %v, not %v", r, s, got, want)
		}
	})
}

func TestRatNeg(t *testing.T) {
	for _, r := range edgeRats() {
		got := impl.RatNeg(r)
		if !isRat(got, new(big.Rat).Neg(toBigRat(r))) || !sameRat(impl.RatNeg(got), r) {
			t.Errorf("RatNeg(%v) is %v", r, got)
		}
	}
}

func TestRatCmp(t *testing.T) {
	eachPairOfRats(func(r, s impl.Rat) {
		if got, want := impl.RatCmp(r, s), toBigRat(r).Cmp(toBigRat(s)); got != want {
			t.Errorf("RatCmp(%v, %v) is %d, not %d", r, s, got, want)
		}
	})
}

func TestRatSign(t *testing.T) {
	for _, r := range edgeRats() {
		if got, want := impl.RatSign(r), toBigRat(r).Sign(); got != want || got != impl.RatCmp(r, impl.RatFromInt(0)) {
			t.Errorf("RatSign(%v) is %d, not %d", r, got, want)
		}
	}
}

func TestRatMinAndMax(t *testing.T) {
	eachPairOfRats(func(r, s impl.Rat) {
		least, most := r, s
		if toBigRat(r).Cmp(toBigRat(s)) > 0 {
			least, most = s, r
		}
		if got := impl.RatMin(r, s); !sameRat(got, least) {
			t.Errorf("RatMin(%v, %v) is %v", r, s, got)
		}
		if got := impl.RatMax(r, s); !sameRat(got, most) {
			t.Errorf("RatMax(%v, %v) is %v", r, s, got)
		}
	})
}

// TestRatSmall compares all pairs of small fractions with math/big, and the
// identities that tie sums and products to differences and quotients.
func TestRatSmall(t *testing.T) {
	var rats []impl.Rat
	for n := -7; n <= 7; n++ {
		for d := 1; d <= 6; d++ {
			rats = append(rats, impl.RatOf(n, d))
		}
	}
	for _, r := range rats {
		for _, s := range rats {
			sum, product := impl.RatAdd(r, s), impl.RatMul(r, s)
			if !isRat(sum, new(big.Rat).Add(toBigRat(r), toBigRat(s))) || !isRat(product, new(big.Rat).Mul(toBigRat(r), toBigRat(s))) {
				t.Errorf("%v and %v have the sum %v and the product %v", r, s, sum, product)
			}
			if !sameRat(impl.RatSub(sum, s), r) || len(s.Num.Mag) > 0 && !sameRat(impl.RatDiv(product, s), r) {
				t.Errorf("%v is not recovered from its sum and product with %v", r, s)
			}
			if impl.RatEqual(r, s) != (impl.RatCmp(r, s) == 0) {
				t.Errorf("RatEqual(%v, %v) is %v", r, s, impl.RatEqual(r, s))
			}
		}
	}
}

// TestRatEqual is about fields and elements, so also about values that are
// not valid.
func TestRatEqual(t *testing.T) {
	values := append(edgeRats()[:40], notRats()...)
	for i, r := range values {
		if !impl.RatEqual(r, clonedRat(r)) {
			t.Errorf("RatEqual(%v, itself) is false", r)
		}
		for k, s := range values {
			if impl.RatEqual(r, s) != sameRat(r, s) {
				t.Errorf("RatEqual of the values %d and %d is %v", i, k, impl.RatEqual(r, s))
			}
		}
	}
	different := [][2]impl.Rat{
		{ratio(plus(1), 2), ratio(plus(2), 4)}, {ratio(plus(1), 2), ratio(minus(1), 2)}, {ratio(plus(), 1), ratio(minus(), 1)}, {ratio(plus(), 1), {}},
		{ratio(plus(1), 2), ratio(plus(1, 0), 2)}, {ratio(plus(1), 2), ratio(plus(1), 2, 0)}, {ratio(plus(1), 2), ratio(plus(2), 1)}, {ratio(plus(1, 2), 3), ratio(plus(1), 2, 3)},
	}
	for _, pair := range different {
		if impl.RatEqual(pair[0], pair[1]) || impl.RatEqual(pair[1], pair[0]) {
			t.Errorf("RatEqual(%v, %v) is true", pair[0], pair[1])
		}
	}
	// A nil list and an empty one are the same.
	if empty := ratio(impl.BigInt{Mag: []int{}}, []int{}...); !impl.RatEqual(impl.Rat{}, empty) || !impl.RatEqual(empty, impl.Rat{}) {
		t.Error("RatEqual of nil and empty lists is false")
	}
}

// TestRatLimit is about the last results that have MaxRat limbs, and the first
// ones that have more, on both sides of 0 and above and below the line.
func TestRatLimit(t *testing.T) {
	one, two := impl.RatFromInt(1), impl.RatFromInt(2)
	most, least := ratio(plus(greatest(24)...), 1), ratio(minus(greatest(24)...), 1)
	tiny := ratio(plus(1), greatest(24)...)
	fitting := []struct{ got, want impl.Rat }{
		{impl.RatAdd(impl.RatSub(most, one), one), most}, {impl.RatSub(impl.RatAdd(least, one), one), least}, {impl.RatNeg(most), least},
		{impl.RatAdd(most, least), ratio(plus(), 1)}, {impl.RatMul(most, tiny), one}, {impl.RatDiv(one, most), tiny}, {impl.RatDiv(one, tiny), most},
		{impl.RatDiv(least, least), one}, {impl.RatDiv(least, most), ratio(minus(1), 1)}, {impl.RatSub(tiny, tiny), ratio(plus(), 1)},
		{impl.RatMul(ratio(plus(power(11)...), 1), ratio(minus(power(12)...), 1)), ratio(minus(power(23)...), 1)},
		{impl.RatMul(ratio(plus(1), power(11)...), ratio(plus(1), power(12)...)), ratio(plus(1), power(23)...)},
		// 2 / Base^23 is 1 / (Base^23 / 2) in lowest terms.
		{impl.RatAdd(ratio(plus(1), power(23)...), ratio(plus(1), power(23)...)), ratio(plus(1), append(repeated(22, 0), impl.Base/2)...)},
		// Here all four numbers have MaxRat limbs, and nearly all of it cancels.
		{impl.RatMul(ratio(plus(greatest(24)...), power(23)...), ratio(minus(power(23)...), greatest(24)...)), ratio(minus(1), 1)},
		{impl.RatDiv(ratio(plus(greatest(24)...), power(23)...), ratio(plus(greatest(24)...), power(23)...)), one},
	}
	for i, c := range fitting {
		if !sameRat(c.got, c.want) {
			t.Errorf("the result %d of at most 24 limbs is %v, not %v", i, c.got, c.want)
		}
	}
	tooLong := []impl.Rat{
		impl.RatAdd(most, one), impl.RatAdd(one, most), impl.RatAdd(least, impl.RatNeg(one)), impl.RatAdd(most, most), impl.RatSub(least, one), impl.RatSub(most, least),
		impl.RatMul(most, two), impl.RatMul(least, two), impl.RatMul(most, most), impl.RatDiv(most, impl.RatOf(1, 2)), impl.RatDiv(least, impl.RatOf(-1, 2)),
		impl.RatDiv(tiny, two), impl.RatMul(tiny, impl.RatOf(1, 2)), impl.RatMul(tiny, tiny), impl.RatDiv(most, tiny), impl.RatDiv(tiny, most),
		impl.RatAdd(most, impl.RatOf(1, 2)), impl.RatSub(most, tiny), impl.RatAdd(tiny, impl.RatOf(1, 2)), impl.RatAdd(tiny, ratio(plus(1), power(23)...)),
		impl.RatMul(ratio(plus(power(12)...), 1), ratio(plus(power(12)...), 1)), impl.RatMul(ratio(plus(1), power(12)...), ratio(plus(1), power(12)...)),
	}
	for i, got := range tooLong {
		if !isZeroRat(got) {
			t.Errorf("the result %d with more than 24 limbs is %v", i, got)
		}
		// What is computed from it is the zero value, too.
		if !isZeroRat(impl.RatAdd(got, one)) || !isZeroRat(impl.RatMul(impl.RatFromInt(0), got)) || !isZeroRat(impl.RatSub(got, got)) {
			t.Errorf("something computed from the result %d is a fraction", i)
		}
	}
}

func TestFormatRat(t *testing.T) {
	cases := []struct {
		r    impl.Rat
		want string
	}{
		{ratio(plus(), 1), "0"}, {ratio(impl.BigInt{Mag: []int{}}, 1), "0"}, {ratio(plus(1), 1), "1"}, {ratio(minus(1), 1), "-1"}, {ratio(plus(3), 2), "3/2"},
		{ratio(minus(3), 2), "-3/2"}, {ratio(plus(1), 0, 1), "1/1000000000"}, {ratio(minus(7, 1), 120, 34, 5), "-1000000007/5000000034000000120"},
		{ratio(plus(0, 1), 1), "1000000000"}, {ratio(plus(1), 1, 1), "1/1000000001"}, {impl.RatOf(math.MinInt, 3), "-9223372036854775808/3"},
		{ratio(minus(greatest(24)...), power(23)...), "-" + strings.Repeat("9", 216) + "/1" + strings.Repeat("0", 207)},
	}
	for _, c := range cases {
		if got := impl.FormatRat(c.r); got != c.want {
			t.Errorf("FormatRat(%v) is %q, not %q", c.r, got, c.want)
		}
	}
	for _, bad := range notRats() {
		if got := impl.FormatRat(bad); got != "" {
			t.Errorf("FormatRat(%v) is %q", bad, got)
		}
	}
}

// TestParseRatOfFormatRat also compares both with the texts of math/big.
func TestParseRatOfFormatRat(t *testing.T) {
	rats := edgeRats()
	random := rand.New(rand.NewSource(12))
	for k := range 2000 {
		rats = append(rats, randomRat(random, k%impl.MaxRat+1))
	}
	for _, r := range rats {
		text := impl.FormatRat(r)
		if want := toBigRat(r).RatString(); text != want {
			t.Errorf("FormatRat(%v) is %q, not %q", r, text, want)
		}
		if got, ok := impl.ParseRat(text); !sameRat(got, r) || !ok {
			t.Errorf("ParseRat(%q) is %v, %v", text, got, ok)
		}
	}
}

// TestParseRatOfSmall has the texts of all small pairs: only those that
// FormatRat writes are texts of fractions.
func TestParseRatOfSmall(t *testing.T) {
	for n := -30; n <= 30; n++ {
		whole := impl.FormatInt(n)
		if r, ok := impl.ParseRat(whole); !ok || !isRat(r, new(big.Rat).SetInt64(int64(n))) {
			t.Errorf("ParseRat(%q) is %v, %v", whole, r, ok)
		}
		for d := -2; d <= 30; d++ {
			text := whole + "/" + impl.FormatInt(d)
			r, ok := impl.ParseRat(text)
			if d == 0 || new(big.Rat).SetFrac64(int64(n), int64(d)).RatString() != text {
				if ok || !isZeroRat(r) {
					t.Errorf("ParseRat(%q) is %v, %v", text, r, ok)
				}
			} else if !ok || !isRat(r, new(big.Rat).SetFrac64(int64(n), int64(d))) {
				t.Errorf("ParseRat(%q) is %v, %v", text, r, ok)
			}
		}
	}
}

func TestParseRatRefuses(t *testing.T) {
	long := strings.Repeat("9", 216)
	bad := []string{
		"", "-", "+", "/", "//", "-/", "1/", "-1/", "/1", "/2", "0/", "1//2", "1/2/", "/1/2", "1/2/3", "2/1/1",
		"1/1", "0/1", "-0", "-0/1", "0/2", "-0/2", "2/1", "-7/1", "2/2", "2/4", "-2/4", "6/4", "1/0", "-1/0", "0/0", "2/0",
		"1/-2", "-1/-2", "1/+2", "+1", "+1/2", "--1/2", "1/--2", "01", "01/2", "1/02", "1/002", "00", "00/1", "1/00", "-01/2",
		" 1/2", "1/2 ", "1 /2", "1/ 2", "1/2\n", "\n1/2", " 1", "1 ", "1\x00", "1/2\x00", "1\x00/2", "\xff", "1/\xff", "１/2", "1/٣", "1∕2", "1⁄2", "½", "−1/2",
		"a", "1/a", "a/2", "1.5", "1e3", "1/2e3", "0x1/2", "1_0/3", "1:2", "1\\2", "1/2x", "x1/2", "1,2",
		long + "9", "-" + long + "9", "1" + strings.Repeat("0", 216), "1/" + long + "9", "1/1" + strings.Repeat("0", 216), long + "9/2", long + "/" + long, long + "/3",
		strings.Repeat("9", 540), strings.Repeat("9", 541), "1/" + strings.Repeat("9", 541), strings.Repeat("9", 100000), "1/" + strings.Repeat("9", 100000),
		strings.Repeat("/", 100000), strings.Repeat("1/2", 1000), strings.Repeat("9", 540) + "/" + strings.Repeat("9", 540),
	}
	for _, s := range bad {
		if r, ok := impl.ParseRat(s); !isZeroRat(r) || ok {
			t.Errorf("ParseRat(%.50q) is %v, %v", s, r, ok)
		}
	}
}

// TestParseRatAcceptsOnlyFormatRat tries all texts of up to four bytes from an
// alphabet of the bytes that matter.
func TestParseRatAcceptsOnlyFormatRat(t *testing.T) {
	for _, s := range textsUpTo(4, "-/0123 +") {
		want := false
		// math/big accepts more texts, but writes only the one in lowest terms.
		value, read := new(big.Rat).SetString(s)
		if read {
			want = value.RatString() == s
		}
		r, ok := impl.ParseRat(s)
		if ok != want || ok && !isRat(r, value) || !ok && !isZeroRat(r) {
			t.Errorf("ParseRat(%q) is %v, %v", s, r, ok)
		}
	}
}

// TestRatOfInvalid gives every function values that are not valid, in both
// places, beside fractions and beside themselves.
func TestRatOfInvalid(t *testing.T) {
	functions := []func(r, s impl.Rat) impl.Rat{impl.RatAdd, impl.RatSub, impl.RatMul, impl.RatDiv, impl.RatMin, impl.RatMax}
	try := func(r, s impl.Rat) {
		for i, f := range functions {
			if got := f(r, s); !isZeroRat(got) {
				t.Errorf("the function %d of %v and %v is %v", i, r, s, got)
			}
		}
		if got := impl.RatCmp(r, s); got != 0 {
			t.Errorf("RatCmp(%v, %v) is %d", r, s, got)
		}
	}
	for _, bad := range notRats() {
		for _, good := range []impl.Rat{ratio(plus(), 1), ratio(plus(1), 1), ratio(minus(1), 2), ratio(plus(7, 7), 3), ratio(minus(greatest(24)...), power(23)...)} {
			try(bad, good)
			try(good, bad)
		}
		try(bad, bad)
		try(bad, impl.Rat{})
		if got := impl.RatNeg(bad); !isZeroRat(got) {
			t.Errorf("RatNeg(%v) is %v", bad, got)
		}
		if got := impl.RatSign(bad); got != 0 {
			t.Errorf("RatSign(%v) is %d", bad, got)
		}
	}
}

// ratResults are all fractions that the functions of two fractions return.
func ratResults(r, s impl.Rat) []impl.Rat {
	return []impl.Rat{
		impl.RatNeg(r), impl.RatNeg(s), impl.RatAdd(r, s), impl.RatSub(r, s), impl.RatMul(r, s), impl.RatDiv(r, s), impl.RatMin(r, s), impl.RatMax(r, s),
		impl.RatMin(s, r), impl.RatMax(s, r), impl.RatMake(r.Num, s.Num), impl.RatMake(r.Num, impl.BigInt{Mag: r.Den}), impl.RatMake(impl.BigInt{Mag: s.Den}, impl.BigInt{Mag: r.Den}),
	}
}

// withRoom puts a list in front of room that must not change.
func withRoom(list []int) []int { return append(slices.Clone(list), 71, 72, 73) }

// TestRatMemory spoils results one by one, the numerator before the
// denominator: neither the arguments, with the room behind them, nor the other
// results may change.
func TestRatMemory(t *testing.T) {
	rats := []impl.Rat{
		ratio(plus(), 1), ratio(plus(1), 1), ratio(minus(1), 1), ratio(plus(1), 2), ratio(minus(12), 5), ratio(minus(5, 18), 7), ratio(plus(7, 0, 5), 1, 1),
		ratio(minus(power(3)...), 7), ratio(plus(greatest(24)...), power(23)...), ratio(minus(1), greatest(24)...), {}, ratio(plus(2), 4), ratio(plus(1)),
	}
	for _, x := range rats {
		for _, y := range rats {
			rooms := [][]int{withRoom(x.Num.Mag), withRoom(x.Den), withRoom(y.Num.Mag), withRoom(y.Den)}
			r := impl.Rat{Num: impl.BigInt{Neg: x.Num.Neg, Mag: rooms[0][:len(x.Num.Mag)]}, Den: rooms[1][:len(x.Den)]}
			s := impl.Rat{Num: impl.BigInt{Neg: y.Num.Neg, Mag: rooms[2][:len(y.Num.Mag)]}, Den: rooms[3][:len(y.Den)]}
			impl.RatOk(r)
			impl.RatCmp(r, s)
			impl.RatSign(r)
			impl.RatEqual(r, s)
			impl.FormatRat(r)
			got, want := ratResults(r, s), ratResults(clonedRat(x), clonedRat(y))
			for i := range got {
				num := sameBigInt(got[i].Num, want[i].Num)
				spoil(got[i].Num.Mag)
				if !num || !slices.Equal(got[i].Den, want[i].Den) {
					t.Errorf("the result %d of %v and %v is %v after spoiling those before it", i, x, y, got[i])
				}
				spoil(got[i].Den)
			}
			for i, list := range [][]int{x.Num.Mag, x.Den, y.Num.Mag, y.Den} {
				if !slices.Equal(rooms[i], withRoom(list)) {
					t.Errorf("the list %d of the arguments %v and %v was changed to %v", i, x, y, rooms[i])
				}
			}
		}
	}
}

// TestRatSameArgument gives one fraction as both arguments.
func TestRatSameArgument(t *testing.T) {
	for _, x := range edgeRats() {
		arg := clonedRat(x)
		got, want := ratResults(arg, arg), ratResults(clonedRat(x), clonedRat(x))
		for i := range got {
			if !sameRat(got[i], want[i]) {
				t.Errorf("the result %d of %v and itself is %v, not %v", i, x, got[i], want[i])
			}
			spoil(got[i].Num.Mag)
			spoil(got[i].Den)
		}
		if !sameRat(arg, x) {
			t.Errorf("the argument %v was changed to %v", x, arg)
		}
	}
}

// TestRatSharedLists has arguments whose own lists are one list.
func TestRatSharedLists(t *testing.T) {
	list := []int{7, 1}
	num := impl.BigInt{Neg: true, Mag: list}
	if got := impl.RatMake(num, impl.BigInt{Mag: list}); !sameRat(got, ratio(minus(1), 1)) {
		t.Errorf("RatMake of a list and itself is %v", got)
	}
	unit := []int{1}
	r := impl.Rat{Num: impl.BigInt{Mag: unit}, Den: unit}
	for i, got := range []impl.Rat{impl.RatNeg(r), impl.RatMul(r, r), impl.RatMin(r, r), impl.RatMax(r, r), impl.RatDiv(r, r)} {
		spoil(got.Num.Mag)
		if !slices.Equal(got.Den, []int{1}) {
			t.Errorf("the two lists of the result %d share memory", i)
		}
	}
	if !slices.Equal(unit, []int{1}) || !slices.Equal(list, []int{7, 1}) {
		t.Errorf("the lists were changed to %v and %v", unit, list)
	}
}

// TestRatNewResults spoils results of calls without fractions as arguments.
func TestRatNewResults(t *testing.T) {
	for _, n := range []int{0, 1, -1, 2, -2, 3, impl.Base, math.MaxInt, math.MinInt} {
		for _, d := range []int{1, 2, 7, impl.Base + 1} {
			want := clonedRat(impl.RatOf(n, d))
			text := impl.FormatRat(want)
			parsed, _ := impl.ParseRat(text)
			for _, r := range []impl.Rat{impl.RatOf(n, d), impl.RatFromInt(n), parsed} {
				spoil(r.Num.Mag)
				spoil(r.Den)
			}
			again, ok := impl.ParseRat(text)
			if !sameRat(impl.RatOf(n, d), want) || !sameRat(again, want) || !ok || d == 1 && !sameRat(impl.RatFromInt(n), want) {
				t.Errorf("%d/%d is %v and %v after earlier results were changed", n, d, impl.RatOf(n, d), again)
			}
		}
	}
}
