package tests

import (
	"math"
	"math/big"
	"math/rand"
	"slices"
	"strings"
	"testing"

	"loop.example/g00830/impl"
)

func plus(mag ...int) impl.BigInt { return impl.BigInt{Mag: mag} }

func minus(mag ...int) impl.BigInt { return impl.BigInt{Neg: true, Mag: mag} }

// cloned is the same BigInt in other memory.
func cloned(x impl.BigInt) impl.BigInt {
	return impl.BigInt{Neg: x.Neg, Mag: slices.Clone(x.Mag)}
}

func sameBigInt(x, y impl.BigInt) bool { return x.Neg == y.Neg && slices.Equal(x.Mag, y.Mag) }

func isZeroBigInt(x impl.BigInt) bool { return !x.Neg && len(x.Mag) == 0 }

// signedBig is the value of a BigInt, computed without the program.
func signedBig(x impl.BigInt) *big.Int {
	n := toBig(x.Mag)
	if x.Neg {
		n.Neg(n)
	}
	return n
}

// isSigned tells whether got is want as a BigInt, or the zero value if want is
// too large for one. It does not rely on BigIntOk.
func isSigned(got impl.BigInt, want *big.Int) bool {
	if !isBig(got.Mag, new(big.Int).Abs(want)) {
		return false
	}
	return got.Neg == (want.Sign() < 0 && len(got.Mag) > 0)
}

// edgeBigInts are the edge numbers that are not of three limbs, which would be
// too many for all pairs, with both signs.
func edgeBigInts() []impl.BigInt {
	numbers := []impl.BigInt{{}}
	for _, a := range edgeNumbers() {
		if len(a) > 0 && len(a) != 3 {
			numbers = append(numbers, plus(a...), minus(slices.Clone(a)...))
		}
	}
	return numbers
}

func randomBigInt(random *rand.Rand, n int) impl.BigInt {
	mag := randomNumber(random, n)
	return impl.BigInt{Neg: len(mag) > 0 && random.Intn(2) == 0, Mag: mag}
}

// notBigInts are values that are not valid: negative zeros and magnitudes that
// are no natural numbers.
func notBigInts() []impl.BigInt {
	list := []impl.BigInt{{Neg: true}, {Neg: true, Mag: []int{}}}
	for _, a := range notNatural() {
		list = append(list, plus(a...), minus(slices.Clone(a)...))
	}
	return list
}

// eachSignedPair calls try with all pairs of edge numbers and with random
// pairs, of which many differ little or only in their signs.
func eachSignedPair(try func(x, y impl.BigInt)) {
	edges := edgeBigInts()
	for _, x := range edges {
		for _, y := range edges {
			try(x, y)
		}
	}
	random := rand.New(rand.NewSource(6))
	for k := range 4000 {
		x, y := randomBigInt(random, k%impl.MaxLimbs+1), randomBigInt(random, k*7%impl.MaxLimbs+1)
		try(x, y)
		if len(x.Mag) == 0 {
			continue
		}
		try(x, impl.BigInt{Neg: !x.Neg, Mag: slices.Clone(x.Mag)})
		near := cloned(x)
		near.Mag[0] = (near.Mag[0] + 1) % impl.Base
		if near.Mag[len(near.Mag)-1] != 0 {
			try(x, near)
			try(x, impl.BigInt{Neg: !near.Neg, Mag: near.Mag})
		}
	}
}

func TestBigIntOk(t *testing.T) {
	for _, x := range append(edgeBigInts(), impl.BigInt{Mag: []int{}}, plus(0, 0, 7), minus(0, 0, 7)) {
		if !impl.BigIntOk(x) {
			t.Errorf("BigIntOk(%v) is false", x)
		}
	}
	for _, x := range notBigInts() {
		if impl.BigIntOk(x) {
			t.Errorf("BigIntOk(%v) is true", x)
		}
	}
}

func TestBigIntOf(t *testing.T) {
	cases := []struct {
		n    int
		want impl.BigInt
	}{
		{0, plus()}, {1, plus(1)}, {-1, minus(1)}, {impl.Base - 1, plus(impl.Base - 1)}, {1 - impl.Base, minus(impl.Base - 1)},
		{impl.Base, plus(0, 1)}, {-impl.Base, minus(0, 1)}, {-impl.Base - 1, minus(1, 1)}, {-impl.Base * impl.Base, minus(0, 0, 1)},
		{math.MaxInt, plus(854775807, 223372036, 9)}, {-math.MaxInt, minus(854775807, 223372036, 9)},
		{math.MinInt, minus(854775808, 223372036, 9)}, {math.MinInt + 2, minus(854775806, 223372036, 9)},
	}
	for _, c := range cases {
		if got := impl.BigIntOf(c.n); !sameBigInt(got, c.want) {
			t.Errorf("BigIntOf(%d) is %v, not %v", c.n, got, c.want)
		}
	}
}

func TestBigIntToInt(t *testing.T) {
	numbers := []int{0, math.MaxInt, math.MaxInt - 1, -math.MaxInt, 1 - math.MaxInt}
	for k := range 63 {
		numbers = append(numbers, 1<<k, 1<<k-1, -(1 << k), 1-1<<k)
	}
	for _, n := range numbers {
		if got, ok := impl.BigIntToInt(impl.BigIntOf(n)); got != n || !ok {
			t.Errorf("BigIntToInt of %d is %d, %v", n, got, ok)
		}
	}
	refused := notBigInts()
	for _, a := range [][]int{{854775808, 223372036, 9}, {0, 223372037, 9}, {0, 0, 10}, {551615, 446744073, 18}, {709551617, 446744073, 18}, power(7), greatest(60)} {
		refused = append(refused, plus(a...), minus(a...))
	}
	// The magnitude of the least int is greater than the greatest one.
	for _, x := range append(refused, impl.BigIntOf(math.MinInt)) {
		if n, ok := impl.BigIntToInt(x); n != 0 || ok {
			t.Errorf("BigIntToInt(%v) is %d, %v, not 0, false", x, n, ok)
		}
	}
}

func TestBigIntNeg(t *testing.T) {
	for _, x := range edgeBigInts() {
		got := impl.BigIntNeg(x)
		if !isSigned(got, new(big.Int).Neg(signedBig(x))) || !sameBigInt(impl.BigIntNeg(got), x) {
			t.Errorf("BigIntNeg(%v) is %v", x, got)
		}
	}
	if got := impl.BigIntNeg(impl.BigIntOf(math.MinInt)); !sameBigInt(got, plus(854775808, 223372036, 9)) {
		t.Errorf("BigIntNeg of the least int is %v", got)
	}
}

func TestBigIntAdd(t *testing.T) {
	eachSignedPair(func(x, y impl.BigInt) {
		if got, want := impl.BigIntAdd(x, y), new(big.Int).Add(signedBig(x), signedBig(y)); !isSigned(got, want) {
			t.Errorf("BigIntAdd(%v, %v) is %v, not %v", x, y, got, want)
		}
	})
}

func TestBigIntSub(t *testing.T) {
	eachSignedPair(func(x, y impl.BigInt) {
		if got, want := impl.BigIntSub(x, y), new(big.Int).Sub(signedBig(x), signedBig(y)); !isSigned(got, want) {
			t.Errorf("BigIntSub(%v, %v) is %v, not %v", x, y, got, want)
		}
	})
}

func TestBigIntMul(t *testing.T) {
	eachSignedPair(func(x, y impl.BigInt) {
		if got, want := impl.BigIntMul(x, y), new(big.Int).Mul(signedBig(x), signedBig(y)); !isSigned(got, want) {
			t.Errorf("BigIntMul(%v, %v) is %v, not %v", x, y, got, want)
		}
	})
}

func TestBigIntCmp(t *testing.T) {
	eachSignedPair(func(x, y impl.BigInt) {
		if got, want := impl.BigIntCmp(x, y), signedBig(x).Cmp(signedBig(y)); got != want {
			t.Errorf("BigIntCmp(%v, %v) is %d, not %d", x, y, got, want)
		}
	})
}

// TestBigIntSmall compares all pairs of small numbers with Go's own ints.
func TestBigIntSmall(t *testing.T) {
	const most = 12
	for n := -most; n <= most; n++ {
		for m := -most; m <= most; m++ {
			x, y := impl.BigIntOf(n), impl.BigIntOf(m)
			sum, _ := impl.BigIntToInt(impl.BigIntAdd(x, y))
			difference, _ := impl.BigIntToInt(impl.BigIntSub(x, y))
			product, _ := impl.BigIntToInt(impl.BigIntMul(x, y))
			if sum != n+m || difference != n-m || product != n*m {
				t.Errorf("%d and %d have the sum %d, difference %d, product %d", n, m, sum, difference, product)
			}
		}
	}
}

// TestBigIntLimit is about the last results that have MaxLimbs limbs, and the
// first ones that have more, on both sides of 0.
func TestBigIntLimit(t *testing.T) {
	most, least := plus(greatest(60)...), minus(greatest(60)...)
	one, minusOne := plus(1), minus(1)
	fitting := []struct{ got, want impl.BigInt }{
		{impl.BigIntAdd(impl.BigIntSub(most, one), one), most}, {impl.BigIntSub(impl.BigIntAdd(least, one), one), least},
		{impl.BigIntNeg(most), least}, {impl.BigIntNeg(least), most}, {impl.BigIntAdd(most, least), plus()}, {impl.BigIntSub(least, least), plus()},
		{impl.BigIntMul(most, minusOne), least}, {impl.BigIntMul(least, minusOne), most},
		{impl.BigIntMul(minus(power(29)...), plus(power(30)...)), minus(power(59)...)},
	}
	for i, c := range fitting {
		if !sameBigInt(c.got, c.want) {
			t.Errorf("the result %d of 60 limbs is %v, not %v", i, c.got, c.want)
		}
	}
	tooLong := []impl.BigInt{
		impl.BigIntAdd(most, one), impl.BigIntAdd(one, most), impl.BigIntAdd(least, minusOne), impl.BigIntAdd(least, least),
		impl.BigIntSub(most, minusOne), impl.BigIntSub(least, one), impl.BigIntSub(most, least), impl.BigIntSub(least, most),
		impl.BigIntMul(most, plus(2)), impl.BigIntMul(least, plus(2)), impl.BigIntMul(minus(2), most), impl.BigIntMul(least, least),
		impl.BigIntMul(minus(power(30)...), plus(power(30)...)), impl.BigIntMul(minus(greatest(30)...), plus(greatest(31)...)),
	}
	for i, got := range tooLong {
		if !isZeroBigInt(got) {
			t.Errorf("the result %d with more than 60 limbs is %v", i, got)
		}
	}
}

func TestFormatBigInt(t *testing.T) {
	cases := []struct {
		x    impl.BigInt
		want string
	}{
		{plus(), "0"}, {impl.BigInt{Mag: []int{}}, "0"}, {plus(7), "7"}, {minus(7), "-7"}, {minus(impl.Base - 1), "-999999999"},
		{minus(0, 1), "-1000000000"}, {minus(120, 34, 5), "-5000000034000000120"},
		{impl.BigIntOf(math.MinInt), "-9223372036854775808"}, {minus(greatest(60)...), "-" + strings.Repeat("9", 540)},
	}
	for _, c := range cases {
		if got := impl.FormatBigInt(c.x); got != c.want {
			t.Errorf("FormatBigInt(%v) is %q, not %q", c.x, got, c.want)
		}
	}
}

// TestParseBigIntOfFormatBigInt also compares both with the texts of math/big.
func TestParseBigIntOfFormatBigInt(t *testing.T) {
	numbers := edgeBigInts()
	random := rand.New(rand.NewSource(7))
	for k := range 2000 {
		numbers = append(numbers, randomBigInt(random, k%impl.MaxLimbs+1))
	}
	for _, x := range numbers {
		text := impl.FormatBigInt(x)
		if want := signedBig(x).String(); text != want {
			t.Errorf("FormatBigInt(%v) is %q, not %q", x, text, want)
		}
		if got, ok := impl.ParseBigInt(text); !sameBigInt(got, x) || !ok {
			t.Errorf("ParseBigInt(%q) is %v, %v", text, got, ok)
		}
	}
}

func TestParseBigIntRefuses(t *testing.T) {
	bad := []string{
		"", "-", "--", "+", "+1", "-+1", "+-1", "--1", "-0", "-00", "00", "01", "-01", "-000000000", "-0000000001", " 1", " -1", "- 1",
		"-1 ", "-1\n", "1-", "1-2", "-a", "-1a", "-1.0", "-1e3", "-0x1", "-1_000", "-1\x00", "\x00-1", "-\xff", "−5", "-٣", "-７", "-1/2",
		"1" + strings.Repeat("0", 540), "-1" + strings.Repeat("0", 540), "-" + strings.Repeat("9", 541), "-" + strings.Repeat("9", 100000),
		"-0" + strings.Repeat("9", 539), "-" + strings.Repeat("9", 539) + "x", strings.Repeat("-", 100000), "10000000-0000000007",
	}
	for _, s := range bad {
		if x, ok := impl.ParseBigInt(s); !isZeroBigInt(x) || ok {
			t.Errorf("ParseBigInt(%.50q) is %v, %v, not 0, false", s, x, ok)
		}
	}
	if x, ok := impl.ParseBigInt("0"); !isZeroBigInt(x) || !ok {
		t.Errorf("ParseBigInt of 0 is %v, %v", x, ok)
	}
}

func TestBigIntFloorDiv(t *testing.T) {
	cases := []struct {
		n, m, quotient, rest int
	}{
		{7, 2, 3, 1}, {-7, 2, -4, 1}, {6, 2, 3, 0}, {-6, 2, -3, 0}, {0, 5, 0, 0}, {1, 5, 0, 1}, {-1, 5, -1, 4}, {-5, 5, -1, 0},
		{-6, 5, -2, 4}, {-4, 5, -1, 1}, {9, 1, 9, 0}, {-9, 1, -9, 0}, {-1, math.MaxInt, -1, math.MaxInt - 1},
		{-math.MaxInt, math.MaxInt, -1, 0}, {math.MinInt, math.MaxInt, -2, math.MaxInt - 1}, {math.MinInt, 1, math.MinInt, 0},
		{math.MinInt, 3, -3074457345618258603, 1}, {-impl.Base, impl.Base, -1, 0}, {1 - impl.Base*impl.Base, impl.Base, -impl.Base, 1},
	}
	for _, c := range cases {
		q, r := impl.BigIntFloorDiv(impl.BigIntOf(c.n), impl.NatOf(c.m))
		if !sameBigInt(q, impl.BigIntOf(c.quotient)) || !slices.Equal(r, impl.NatOf(c.rest)) {
			t.Errorf("BigIntFloorDiv(%d, %d) is %v, %v", c.n, c.m, q, r)
		}
	}
}

func TestBigIntFloorDivOfPairs(t *testing.T) {
	eachSignedPair(func(x, y impl.BigInt) {
		m := y.Mag
		if len(m) == 0 {
			return
		}
		q, r := impl.BigIntFloorDiv(x, m)
		// For a positive divisor, the division of math/big is rounded down.
		wantQ, wantR := new(big.Int).DivMod(signedBig(x), toBig(m), new(big.Int))
		if !isSigned(q, wantQ) || !isBig(r, wantR) {
			t.Errorf("BigIntFloorDiv(%v, %v) is %v, %v, not %v, %v", x, m, q, r, wantQ, wantR)
		}
	})
}

// TestBigIntFloorDivOfProducts divides negative multiples, and the numbers just
// below and above them, where the floor changes.
func TestBigIntFloorDivOfProducts(t *testing.T) {
	random := rand.New(rand.NewSource(8))
	one := plus(1)
	for k := range 2000 {
		m, q := randomNumber(random, k%30+1), randomBigInt(random, k%29+1)
		if len(m) == 0 || slices.Equal(m, one.Mag) {
			continue
		}
		product := impl.BigIntMul(q, plus(m...))
		if gotQ, gotR := impl.BigIntFloorDiv(product, m); !sameBigInt(gotQ, q) || len(gotR) != 0 {
			t.Errorf("BigIntFloorDiv(%v, %v) is %v, %v", product, m, gotQ, gotR)
		}
		if gotQ, gotR := impl.BigIntFloorDiv(impl.BigIntAdd(product, one), m); !sameBigInt(gotQ, q) || !slices.Equal(gotR, one.Mag) {
			t.Errorf("BigIntFloorDiv(%v + 1, %v) is %v, %v", product, m, gotQ, gotR)
		}
		gotQ, gotR := impl.BigIntFloorDiv(impl.BigIntSub(product, one), m)
		if !sameBigInt(gotQ, impl.BigIntSub(q, one)) || !slices.Equal(gotR, impl.NatSub(m, one.Mag)) {
			t.Errorf("BigIntFloorDiv(%v - 1, %v) is %v, %v", product, m, gotQ, gotR)
		}
	}
}

// TestBigIntFloorDivRefuses has divisors that are 0 or no natural numbers.
func TestBigIntFloorDivRefuses(t *testing.T) {
	for _, m := range append(notNatural(), nil, []int{}) {
		for _, x := range []impl.BigInt{{}, plus(7), minus(7), minus(greatest(60)...), {Neg: true}, minus(0)} {
			if q, r := impl.BigIntFloorDiv(x, m); !isZeroBigInt(q) || len(r) != 0 {
				t.Errorf("BigIntFloorDiv(%v, %v) is %v, %v", x, m, q, r)
			}
		}
	}
	for _, bad := range notBigInts() {
		for _, m := range [][]int{{1}, {2}, {7, 7}, greatest(impl.MaxLimbs)} {
			if q, r := impl.BigIntFloorDiv(bad, m); !isZeroBigInt(q) || len(r) != 0 {
				t.Errorf("BigIntFloorDiv(%v, %v) is %v, %v", bad, m, q, r)
			}
		}
	}
}

// TestBigIntOfInvalid gives every function values that are not valid, in both
// places, beside numbers and beside 0.
func TestBigIntOfInvalid(t *testing.T) {
	functions := []func(x, y impl.BigInt) impl.BigInt{impl.BigIntAdd, impl.BigIntSub, impl.BigIntMul}
	try := func(x, y impl.BigInt) {
		for i, f := range functions {
			if got := f(x, y); !isZeroBigInt(got) {
				t.Errorf("the function %d of %v and %v is %v", i, x, y, got)
			}
		}
		if got := impl.BigIntCmp(x, y); got != 0 {
			t.Errorf("BigIntCmp(%v, %v) is %d", x, y, got)
		}
	}
	for _, bad := range notBigInts() {
		for _, good := range []impl.BigInt{{}, plus(1), minus(1), plus(7, 7), minus(greatest(60)...)} {
			try(bad, good)
			try(good, bad)
		}
		try(bad, bad)
		try(bad, minus())
		if got := impl.BigIntNeg(bad); !isZeroBigInt(got) {
			t.Errorf("BigIntNeg(%v) is %v", bad, got)
		}
		if got := impl.FormatBigInt(bad); got != "" {
			t.Errorf("FormatBigInt(%v) is %q", bad, got)
		}
	}
}

// bigIntResults are all numbers that the functions of numbers return; the
// divisor of the last one is the magnitude of y.
func bigIntResults(x, y impl.BigInt) []impl.BigInt {
	q, r := impl.BigIntFloorDiv(x, y.Mag)
	return []impl.BigInt{
		impl.BigIntNeg(x), impl.BigIntNeg(y), impl.BigIntAdd(x, y), impl.BigIntSub(x, y), impl.BigIntMul(x, y), q, {Mag: r},
	}
}

// TestBigIntMemory spoils results one by one: neither the arguments, with the
// room behind them, nor the other results may change.
func TestBigIntMemory(t *testing.T) {
	numbers := []impl.BigInt{{}, plus(1), minus(1), plus(12), minus(5, 18), plus(7, 0, 5), minus(power(3)...), minus(greatest(60)...)}
	for _, x := range numbers {
		for _, y := range numbers {
			roomX, roomY := append(slices.Clone(x.Mag), 71, 72, 73), append(slices.Clone(y.Mag), 81, 82, 83)
			beforeX, beforeY := slices.Clone(roomX), slices.Clone(roomY)
			argX := impl.BigInt{Neg: x.Neg, Mag: roomX[:len(x.Mag)]}
			argY := impl.BigInt{Neg: y.Neg, Mag: roomY[:len(y.Mag)]}
			impl.BigIntOk(argX)
			impl.BigIntToInt(argX)
			impl.BigIntCmp(argX, argY)
			impl.FormatBigInt(argX)
			got, want := bigIntResults(argX, argY), bigIntResults(cloned(x), cloned(y))
			for i := range got {
				if !sameBigInt(got[i], want[i]) {
					t.Errorf("the result %d of %v and %v is %v after spoiling those before it", i, x, y, got[i])
				}
				spoil(got[i].Mag)
			}
			if !slices.Equal(roomX, beforeX) || !slices.Equal(roomY, beforeY) {
				t.Errorf("the arguments %v and %v were changed to %v and %v", x, y, roomX, roomY)
			}
		}
	}
}

// TestBigIntSameArgument gives one number as both arguments.
func TestBigIntSameArgument(t *testing.T) {
	for _, x := range edgeBigInts() {
		arg := cloned(x)
		got, want := bigIntResults(arg, arg), bigIntResults(cloned(x), cloned(x))
		for i := range got {
			if !sameBigInt(got[i], want[i]) {
				t.Errorf("the result %d of %v and itself is %v, not %v", i, x, got[i], want[i])
			}
			spoil(got[i].Mag)
		}
		if !sameBigInt(arg, x) {
			t.Errorf("the argument %v was changed to %v", x, arg)
		}
	}
}

// TestBigIntNewResults spoils results of calls without numbers as arguments.
func TestBigIntNewResults(t *testing.T) {
	for _, n := range []int{0, 1, -1, impl.Base, -impl.Base, math.MaxInt, math.MinInt} {
		want := cloned(impl.BigIntOf(n))
		text := impl.FormatBigInt(want)
		spoil(impl.BigIntOf(n).Mag)
		parsed, _ := impl.ParseBigInt(text)
		spoil(parsed.Mag)
		again, _ := impl.ParseBigInt(text)
		if !sameBigInt(impl.BigIntOf(n), want) || !sameBigInt(again, want) {
			t.Errorf("%d is %v and %v after earlier results were changed", n, impl.BigIntOf(n), again)
		}
	}
}
