package tests

import (
	"math"
	"math/big"
	"math/rand"
	"slices"
	"strings"
	"testing"

	"loop.example/g00830/impl"
)

// repeated is a list of n equal limbs.
func repeated(n int, limb int) []int {
	list := make([]int, n)
	for i := range list {
		list[i] = limb
	}
	return list
}

// power is Base to the power n.
func power(n int) []int { return append(make([]int, n), 1) }

// greatest is the greatest natural number of n limbs.
func greatest(n int) []int { return repeated(n, impl.Base-1) }

// notNatural are lists that are no natural numbers.
func notNatural() [][]int {
	return [][]int{
		{0}, {0, 0}, {5, 0}, {0, 1, 0}, {-1}, {5, -1}, {-1, 5}, {impl.Base}, {5, impl.Base}, {impl.Base, 5},
		{math.MaxInt}, {math.MinInt}, {1, math.MinInt, 1}, {math.MaxInt, 1},
		power(impl.MaxLimbs), greatest(impl.MaxLimbs + 1), repeated(1000, 1), append(repeated(59, 1), 0),
	}
}

// toBig is the value of a list of limbs, computed without the program.
func toBig(a []int) *big.Int {
	n := new(big.Int)
	for i := len(a) - 1; i >= 0; i-- {
		n.Mul(n, big.NewInt(impl.Base))
		n.Add(n, big.NewInt(int64(a[i])))
	}
	return n
}

// isBig tells whether got is want as a natural number, or empty if want is
// too large for one.
func isBig(got []int, want *big.Int) bool {
	if want.Cmp(toBig(greatest(impl.MaxLimbs))) > 0 {
		return len(got) == 0
	}
	// The check of the last limb does not rely on NatOk.
	return toBig(got).Cmp(want) == 0 && len(got) <= impl.MaxLimbs && (len(got) == 0 || got[len(got)-1] > 0)
}

// edgeNumbers are all numbers of up to three limbs of which each one is at an
// edge, and some long ones.
func edgeNumbers() [][]int {
	limbs := []int{0, 1, 2, impl.Base/2 - 1, impl.Base / 2, impl.Base - 2, impl.Base - 1}
	numbers := [][]int{nil}
	for _, a := range limbs[1:] {
		numbers = append(numbers, []int{a})
		for _, b := range limbs {
			numbers = append(numbers, []int{b, a})
			for _, c := range limbs {
				numbers = append(numbers, []int{c, b, a})
			}
		}
	}
	for _, n := range []int{4, 29, 30, 31, 59, 60} {
		numbers = append(numbers, greatest(n), power(n-1), append(repeated(n-1, 0), impl.Base/2))
	}
	return numbers
}

// randomNumber has up to n limbs, with more zeros and greatest limbs than by
// chance: long carries and wrong guesses in divisions need them.
func randomNumber(random *rand.Rand, n int) []int {
	a := make([]int, random.Intn(n+1))
	for i := range a {
		switch random.Intn(4) {
		case 0:
			a[i] = impl.Base - 1 - random.Intn(2)
		case 1:
			a[i] = random.Intn(2)
		default:
			a[i] = random.Intn(impl.Base)
		}
	}
	if len(a) > 0 && a[len(a)-1] == 0 {
		a[len(a)-1] = 1
	}
	return a
}

// eachPair calls try with all pairs of edge numbers and with random pairs.
func eachPair(try func(a, b []int)) {
	edges := edgeNumbers()
	for _, a := range edges {
		for _, b := range edges {
			try(a, b)
		}
	}
	random := rand.New(rand.NewSource(2))
	for k := range 6000 {
		try(randomNumber(random, k%impl.MaxLimbs+1), randomNumber(random, k*7%impl.MaxLimbs+1))
	}
}

func TestNatConstants(t *testing.T) {
	if impl.Base != 1000000000 || impl.MaxLimbs != 60 {
		t.Errorf("Base is %d and MaxLimbs %d", impl.Base, impl.MaxLimbs)
	}
}

func TestNatOk(t *testing.T) {
	for _, a := range append(edgeNumbers(), []int{}, []int{0, 0, 7}) {
		if !impl.NatOk(a) {
			t.Errorf("NatOk(%v) is false", a)
		}
	}
	for _, a := range notNatural() {
		if impl.NatOk(a) {
			t.Errorf("NatOk(%v) is true", a)
		}
	}
}

func TestNatOf(t *testing.T) {
	cases := []struct {
		n    int
		want []int
	}{
		{0, nil}, {1, []int{1}}, {impl.Base - 1, []int{impl.Base - 1}}, {impl.Base, []int{0, 1}},
		{impl.Base + 7, []int{7, 1}}, {impl.Base * impl.Base, []int{0, 0, 1}}, {impl.Base*impl.Base - 1, greatest(2)},
		{math.MaxInt, []int{854775807, 223372036, 9}}, {-1, nil}, {-impl.Base, nil}, {math.MinInt, nil},
	}
	for _, c := range cases {
		if got := impl.NatOf(c.n); !slices.Equal(got, c.want) {
			t.Errorf("NatOf(%d) is %v, not %v", c.n, got, c.want)
		}
	}
}

func TestNatToInt(t *testing.T) {
	numbers := []int{0, 1, impl.Base - 1, impl.Base, impl.Base + 1, impl.Base * impl.Base, math.MaxInt - 1, math.MaxInt}
	for k := range 63 {
		numbers = append(numbers, 1<<k, 1<<k-1, 1<<k+1)
	}
	for _, n := range numbers {
		if got, ok := impl.NatToInt(impl.NatOf(n)); got != n || !ok {
			t.Errorf("NatToInt of %d is %d, %v", n, got, ok)
		}
	}
	tooLarge := [][]int{
		{854775808, 223372036, 9}, {0, 223372037, 9}, {0, 0, 10}, {0, 0, impl.Base - 1}, power(3), power(7),
		{551615, 446744073, 18}, {709551616, 446744073, 18}, {709551617, 446744073, 18}, greatest(impl.MaxLimbs),
	}
	for _, a := range append(tooLarge, notNatural()...) {
		if n, ok := impl.NatToInt(a); n != 0 || ok {
			t.Errorf("NatToInt(%v) is %d, %v, not 0, false", a, n, ok)
		}
	}
}

func TestNatCmp(t *testing.T) {
	eachPair(func(a, b []int) {
		if got, want := impl.NatCmp(a, b), toBig(a).Cmp(toBig(b)); got != want {
			t.Errorf("NatCmp(%v, %v) is %d, not %d", a, b, got, want)
		}
	})
}

func TestNatAdd(t *testing.T) {
	eachPair(func(a, b []int) {
		if got, want := impl.NatAdd(a, b), new(big.Int).Add(toBig(a), toBig(b)); !isBig(got, want) {
			t.Errorf("NatAdd(%v, %v) is %v, not %v", a, b, got, want)
		}
	})
}

func TestNatSub(t *testing.T) {
	eachPair(func(a, b []int) {
		want := new(big.Int).Sub(toBig(a), toBig(b))
		if want.Sign() < 0 {
			want.SetInt64(0)
		}
		if got := impl.NatSub(a, b); !isBig(got, want) {
			t.Errorf("NatSub(%v, %v) is %v, not %v", a, b, got, want)
		}
	})
}

func TestNatMul(t *testing.T) {
	eachPair(func(a, b []int) {
		if got, want := impl.NatMul(a, b), new(big.Int).Mul(toBig(a), toBig(b)); !isBig(got, want) {
			t.Errorf("NatMul(%v, %v) is %v, not %v", a, b, got, want)
		}
	})
}

// TestNatLimit is about the last result that has MaxLimbs limbs, and the
// first one that has more.
func TestNatLimit(t *testing.T) {
	most, one := greatest(impl.MaxLimbs), []int{1}
	if got := impl.NatAdd(impl.NatSub(most, one), one); !slices.Equal(got, most) {
		t.Errorf("the greatest sum is %v", got)
	}
	if got := impl.NatMul(power(29), power(30)); !slices.Equal(got, power(59)) {
		t.Errorf("the product of 30 and 31 limbs is %v", got)
	}
	if got := impl.NatMul(most, one); !slices.Equal(got, most) {
		t.Errorf("the product of 60 limbs and 1 is %v", got)
	}
	if got := impl.NatMul(greatest(30), greatest(30)); !isBig(got, new(big.Int).Mul(toBig(greatest(30)), toBig(greatest(30)))) || len(got) != 60 {
		t.Errorf("the product of 30 and 30 limbs is %v", got)
	}
	tooLong := [][]int{
		impl.NatAdd(most, one), impl.NatAdd(one, most), impl.NatAdd(most, most), impl.NatMul(most, []int{2}),
		impl.NatMul(greatest(30), greatest(31)), impl.NatMul(power(30), power(30)), impl.NatMul(power(59), power(1)), impl.NatMul(most, most),
	}
	for i, got := range tooLong {
		if len(got) != 0 {
			t.Errorf("the result %d with more than 60 limbs is %v", i, got)
		}
	}
	if q, r := impl.NatDiv(most, most); !slices.Equal(q, one) || len(r) != 0 {
		t.Errorf("the greatest number divided by itself is %v, %v", q, r)
	}
	if got := impl.NatGcd(most, most); !slices.Equal(got, most) {
		t.Errorf("the greatest common divisor of the greatest number and itself is %v", got)
	}
}

func TestNatDiv(t *testing.T) {
	eachPair(func(a, b []int) {
		q, r := impl.NatDiv(a, b)
		wantQ, wantR := new(big.Int), new(big.Int)
		if len(b) > 0 {
			wantQ.QuoRem(toBig(a), toBig(b), wantR)
		}
		if !isBig(q, wantQ) || !isBig(r, wantR) {
			t.Errorf("NatDiv(%v, %v) is %v, %v, not %v, %v", a, b, q, r, wantQ, wantR)
		}
	})
}

// TestNatDivOfProducts divides multiples, and the numbers just below and above
// them, where a quotient that is guessed is most easily wrong by 1.
func TestNatDivOfProducts(t *testing.T) {
	random := rand.New(rand.NewSource(3))
	one := []int{1}
	for k := range 4000 {
		b, q := randomNumber(random, k%30+1), randomNumber(random, k%29+1)
		if len(b) == 0 || len(q) == 0 {
			continue
		}
		product := impl.NatMul(b, q)
		if gotQ, gotR := impl.NatDiv(product, b); !slices.Equal(gotQ, q) || len(gotR) != 0 {
			t.Errorf("NatDiv(%v, %v) is %v, %v", product, b, gotQ, gotR)
		}
		last := impl.NatSub(b, one)
		if gotQ, gotR := impl.NatDiv(impl.NatAdd(product, last), b); !slices.Equal(gotQ, q) || !slices.Equal(gotR, last) {
			t.Errorf("NatDiv(%v + %v, %v) is %v, %v", product, last, b, gotQ, gotR)
		}
		if gotQ, gotR := impl.NatDiv(impl.NatSub(product, one), b); !slices.Equal(gotQ, impl.NatSub(q, one)) || !slices.Equal(gotR, last) {
			t.Errorf("NatDiv(%v - 1, %v) is %v, %v", product, b, gotQ, gotR)
		}
	}
}

func TestNatDivByZero(t *testing.T) {
	for _, a := range edgeNumbers() {
		for _, zero := range [][]int{nil, {}} {
			if q, r := impl.NatDiv(a, zero); q != nil || r != nil {
				t.Errorf("NatDiv(%v, 0) is %v, %v", a, q, r)
			}
		}
	}
}

func TestNatGcd(t *testing.T) {
	eachPair(func(a, b []int) {
		if got, want := impl.NatGcd(a, b), new(big.Int).GCD(nil, nil, toBig(a), toBig(b)); !isBig(got, want) {
			t.Errorf("NatGcd(%v, %v) is %v, not %v", a, b, got, want)
		}
	})
}

// TestNatGcdOfMultiples has divisors longer than those of random numbers.
func TestNatGcdOfMultiples(t *testing.T) {
	random := rand.New(rand.NewSource(4))
	for k := range 1500 {
		d := randomNumber(random, k%30+1)
		a := impl.NatMul(d, randomNumber(random, k%25+1))
		b := impl.NatMul(d, randomNumber(random, k%17+1))
		if got, want := impl.NatGcd(a, b), new(big.Int).GCD(nil, nil, toBig(a), toBig(b)); !isBig(got, want) {
			t.Errorf("NatGcd(%v, %v) is %v, not %v", a, b, got, want)
		}
	}
}

// TestNatGcdOfFibonacci has the most steps for numbers of this length.
func TestNatGcdOfFibonacci(t *testing.T) {
	a, b := []int{1}, []int{1}
	for len(b) > 0 {
		if len(b) == impl.MaxLimbs {
			if got := impl.NatGcd(b, a); !slices.Equal(got, []int{1}) {
				t.Fatalf("NatGcd of two neighbours is %v", got)
			}
		}
		a, b = b, impl.NatAdd(a, b)
	}
	if len(a) != impl.MaxLimbs {
		t.Errorf("the last Fibonacci number has %d limbs", len(a))
	}
}

func TestFormatNat(t *testing.T) {
	cases := []struct {
		a    []int
		want string
	}{
		{nil, "0"}, {[]int{}, "0"}, {[]int{7}, "7"}, {[]int{impl.Base - 1}, "999999999"},
		{[]int{0, 1}, "1000000000"}, {[]int{7, 1}, "1000000007"}, {[]int{120, 34, 5}, "5000000034000000120"},
		{power(59), "1" + strings.Repeat("0", 531)}, {greatest(60), strings.Repeat("9", 540)},
	}
	for _, c := range cases {
		if got := impl.FormatNat(c.a); got != c.want {
			t.Errorf("FormatNat(%v) is %q, not %q", c.a, got, c.want)
		}
	}
}

// TestParseNatOfFormatNat also compares both with the texts of math/big.
func TestParseNatOfFormatNat(t *testing.T) {
	numbers := edgeNumbers()
	random := rand.New(rand.NewSource(5))
	for k := range 2000 {
		numbers = append(numbers, randomNumber(random, k%impl.MaxLimbs+1))
	}
	for _, a := range numbers {
		text := impl.FormatNat(a)
		if want := toBig(a).String(); text != want {
			t.Errorf("FormatNat(%v) is %q, not %q", a, text, want)
		}
		if got, ok := impl.ParseNat(text); !slices.Equal(got, a) || !ok {
			t.Errorf("ParseNat(%q) is %v, %v", text, got, ok)
		}
	}
}

// TestParseNatOfEveryLength has texts that begin anywhere in a limb.
func TestParseNatOfEveryLength(t *testing.T) {
	for n := 1; n <= 540; n++ {
		text := strings.Repeat("9081726354", 54)[:n]
		got, ok := impl.ParseNat(text)
		if !ok || toBig(got).String() != text || impl.FormatNat(got) != text {
			t.Errorf("ParseNat(%q) is %v, %v", text, got, ok)
		}
	}
}

func TestParseNatRefuses(t *testing.T) {
	bad := []string{
		"", "-", "+", "-1", "+1", "-0", "00", "000000000", "0000000000", "01", "0000000001", "007", " 1", "1 ", "1\n",
		"a", "1a", "12345x7890", "1.0", "1e3", "0x1", "1_000", "1\x00", "\xff", "1\xff", "٣", "1٣", "７", "1,000",
		"1" + strings.Repeat("0", 540), strings.Repeat("9", 541), strings.Repeat("9", 100000),
		"0" + strings.Repeat("9", 539), strings.Repeat("9", 539) + "x", "x" + strings.Repeat("9", 539),
		"1000000000-0000001", "1-00000000", "10000000000000000 7",
	}
	for _, s := range bad {
		if a, ok := impl.ParseNat(s); len(a) != 0 || ok {
			t.Errorf("ParseNat(%.50q) is %v, %v, not nil, false", s, a, ok)
		}
	}
	if a, ok := impl.ParseNat("0"); len(a) != 0 || !ok {
		t.Errorf("ParseNat of 0 is %v, %v", a, ok)
	}
}

// TestNatOfInvalid gives every function lists that are no natural numbers, in
// both places, beside a number and beside 0.
func TestNatOfInvalid(t *testing.T) {
	functions := []func(a, b []int) []int{impl.NatAdd, impl.NatSub, impl.NatMul, impl.NatGcd}
	try := func(a, b []int) {
		for i, f := range functions {
			if got := f(a, b); got != nil {
				t.Errorf("the function %d of %v and %v is %v", i, a, b, got)
			}
		}
		if q, r := impl.NatDiv(a, b); q != nil || r != nil {
			t.Errorf("NatDiv(%v, %v) is %v, %v", a, b, q, r)
		}
		if got := impl.NatCmp(a, b); got != 0 {
			t.Errorf("NatCmp(%v, %v) is %d", a, b, got)
		}
	}
	for _, bad := range notNatural() {
		for _, good := range [][]int{nil, {1}, {7, 7}, greatest(impl.MaxLimbs)} {
			try(bad, good)
			try(good, bad)
		}
		try(bad, bad)
		if got := impl.FormatNat(bad); got != "" {
			t.Errorf("FormatNat(%v) is %q", bad, got)
		}
	}
}

// results are all numbers that the functions of two numbers return.
func results(a, b []int) [][]int {
	q, r := impl.NatDiv(a, b)
	return [][]int{impl.NatAdd(a, b), impl.NatSub(a, b), impl.NatMul(a, b), impl.NatGcd(a, b), q, r}
}

// spoil overwrites a list and the room behind it.
func spoil(list []int) {
	list = list[:cap(list)]
	for i := range list {
		list[i] = -5
	}
}

// TestNatMemory spoils results one by one: neither the arguments, with the
// room behind them, nor the other results may change.
func TestNatMemory(t *testing.T) {
	numbers := [][]int{nil, {1}, {12}, {5, 18}, {7, 0, 5}, power(3), greatest(4), greatest(impl.MaxLimbs)}
	for _, x := range numbers {
		for _, y := range numbers {
			roomA, roomB := append(slices.Clone(x), 71, 72, 73), append(slices.Clone(y), 81, 82, 83)
			beforeA, beforeB := slices.Clone(roomA), slices.Clone(roomB)
			a, b := roomA[:len(x)], roomB[:len(y)]
			impl.NatOk(a)
			impl.NatToInt(a)
			impl.NatCmp(a, b)
			impl.FormatNat(a)
			got, want := results(a, b), results(slices.Clone(x), slices.Clone(y))
			for i := range got {
				if !slices.Equal(got[i], want[i]) {
					t.Errorf("the result %d of %v and %v is %v after spoiling those before it", i, x, y, got[i])
				}
				spoil(got[i])
			}
			if !slices.Equal(roomA, beforeA) || !slices.Equal(roomB, beforeB) {
				t.Errorf("the arguments %v and %v were changed to %v and %v", x, y, roomA, roomB)
			}
		}
	}
}

// TestNatSameArgument gives one list as both arguments.
func TestNatSameArgument(t *testing.T) {
	for _, x := range edgeNumbers() {
		a := slices.Clone(x)
		got, want := results(a, a), results(slices.Clone(x), slices.Clone(x))
		for i := range got {
			if !slices.Equal(got[i], want[i]) {
				t.Errorf("the result %d of %v and itself is %v, not %v", i, x, got[i], want[i])
			}
			spoil(got[i])
		}
		if !slices.Equal(a, x) {
			t.Errorf("the argument %v was changed to %v", x, a)
		}
	}
}

// TestNatNewResults spoils results of calls without lists as arguments.
func TestNatNewResults(t *testing.T) {
	for _, n := range []int{0, 1, impl.Base, math.MaxInt} {
		want := slices.Clone(impl.NatOf(n))
		text := impl.FormatNat(want)
		spoil(impl.NatOf(n))
		parsed, _ := impl.ParseNat(text)
		spoil(parsed)
		again, _ := impl.ParseNat(text)
		if !slices.Equal(impl.NatOf(n), want) || !slices.Equal(again, want) {
			t.Errorf("%d is %v and %v after earlier results were changed", n, impl.NatOf(n), again)
		}
	}
}
