package tests

import (
	"math"
	"math/big"
	"math/rand"
	"slices"
	"strings"
	"testing"

	"loop.example/g00830/impl"
)

// vectorOf is the vector of the fractions with these texts.
func vectorOf(texts ...string) []impl.Rat {
	v := make([]impl.Rat, len(texts))
	for i, text := range texts {
		r, ok := impl.ParseRat(text)
		if !ok {
			panic("no fraction: " + text)
		}
		v[i] = r
	}
	return v
}

// clonedVector is the same vector in other memory.
func clonedVector(v []impl.Rat) []impl.Rat {
	list := make([]impl.Rat, len(v))
	for i, r := range v {
		list[i] = clonedRat(r)
	}
	return list
}

// sameVector does not rely on EqualVectors.
func sameVector(a, b []impl.Rat) bool { return slices.EqualFunc(a, b, sameRat) }

// repeatedRat is a list of n equal fractions, each in memory of its own.
func repeatedRat(n int, r impl.Rat) []impl.Rat {
	list := make([]impl.Rat, n)
	for i := range list {
		list[i] = clonedRat(r)
	}
	return list
}

// replaced is the vector with another element at the index i.
func replaced(v []impl.Rat, i int, r impl.Rat) []impl.Rat {
	list := clonedVector(v)
	list[i] = clonedRat(r)
	return list
}

// fits tells whether a number is not too large for a fraction.
func fits(r *big.Rat) bool {
	most := toBig(greatest(impl.MaxRat))
	return r.Denom().Cmp(most) <= 0 && r.Num().CmpAbs(most) <= 0
}

// isVectorOf tells whether a result is the vector of these numbers and true,
// or nil and false if one of them is too large.
func isVectorOf(got []impl.Rat, ok bool, want []*big.Rat) bool {
	for _, r := range want {
		if !fits(r) {
			return got == nil && !ok
		}
	}
	return ok && slices.EqualFunc(got, want, isRat)
}

// eachNumber is the list of what f makes of the elements of two vectors,
// computed without the program.
func eachNumber(a, b []impl.Rat, f func(x, y *big.Rat) *big.Rat) []*big.Rat {
	list := make([]*big.Rat, len(a))
	for i := range a {
		list[i] = f(toBigRat(a[i]), toBigRat(b[i]))
	}
	return list
}

func bigSum(x, y *big.Rat) *big.Rat { return new(big.Rat).Add(x, y) }

func bigDifference(x, y *big.Rat) *big.Rat { return new(big.Rat).Sub(x, y) }

func bigProduct(x, y *big.Rat) *big.Rat { return new(big.Rat).Mul(x, y) }

// innerProduct is computed without the program; it is false if a product, or a
// sum on the way, is too large.
func innerProduct(a, b []impl.Rat) (*big.Rat, bool) {
	sum := new(big.Rat)
	for _, product := range eachNumber(a, b, bigProduct) {
		sum.Add(sum, product)
		if !fits(product) || !fits(sum) {
			return nil, false
		}
	}
	return sum, true
}

// randomVector has n elements of up to size limbs.
func randomVector(random *rand.Rand, n int, size int) []impl.Rat {
	v := make([]impl.Rat, n)
	for i := range v {
		v[i] = randomRat(random, size)
	}
	return v
}

// eachPairOfVectors calls try with pairs of vectors of the same length: of
// equal edge fractions, and random ones of all lengths. The elements of most
// are so small that all results fit, and of some so large that some do not.
func eachPairOfVectors(try func(a, b []impl.Rat)) {
	edges := edgeRats()
	for i, r := range edges {
		for k := range 6 {
			s := edges[(i*7+k*31)%len(edges)]
			try([]impl.Rat{r}, []impl.Rat{s})
			try([]impl.Rat{r, s, r}, []impl.Rat{s, s, edges[k]})
		}
	}
	random := rand.New(rand.NewSource(13))
	for k := range 500 {
		n, size := k%(impl.MaxLength+1), k*5%7%4+1
		a, b := randomVector(random, n, size), randomVector(random, n, size)
		try(a, b)
		try(a, a)
		if n == 0 {
			continue
		}
		long := randomRat(random, impl.MaxRat)
		try(replaced(a, k%n, long), b)
		try(a, replaced(b, k*3%n, long))
		try(replaced(a, k%n, long), replaced(b, k%n, lowest(randomBigInt(random, impl.MaxRat), long.Den)))
	}
}

// lengthsAround are the lengths that vectors may have, and some greater ones.
func lengthsAround() []int {
	lengths := []int{30, 48, 100, 1000}
	for n := range impl.MaxLength + 4 {
		lengths = append(lengths, n)
	}
	return lengths
}

// pairResult is what a function of two vectors returns: no more than one of
// its numbers, a vector or a fraction.
type pairResult struct {
	name   string
	vector []impl.Rat
	number impl.Rat
	ok     bool
}

// ofPair are the results of all functions of two vectors that may be refused.
func ofPair(a, b []impl.Rat) []pairResult {
	sums, sumsOk := impl.AddVectors(a, b)
	differences, differencesOk := impl.SubtractVectors(a, b)
	product, productOk := impl.InnerProduct(a, b)
	return []pairResult{
		{"AddVectors", sums, impl.Rat{}, sumsOk},
		{"SubtractVectors", differences, impl.Rat{}, differencesOk},
		{"InnerProduct", nil, product, productOk},
	}
}

// mustRefusePair checks that all functions refuse two vectors.
func mustRefusePair(t *testing.T, a, b []impl.Rat) {
	t.Helper()
	for _, got := range ofPair(a, b) {
		if got.ok || got.vector != nil || !isZeroRat(got.number) {
			t.Errorf("%s of %d and %d elements, %v and %v, is not refused: %v, %v", got.name, len(a), len(b), a, b, got.vector, got.number)
		}
	}
}

// mustRefuseScale checks that ScaleVector refuses its arguments.
func mustRefuseScale(t *testing.T, r impl.Rat, v []impl.Rat) {
	t.Helper()
	if got, ok := impl.ScaleVector(r, v); ok || got != nil {
		t.Errorf("ScaleVector(%v, %v) is %v, %v", r, v, got, ok)
	}
}

func TestMaxLength(t *testing.T) {
	if impl.MaxLength != 24 {
		t.Errorf("MaxLength is %d", impl.MaxLength)
	}
}

func TestIsVector(t *testing.T) {
	if !impl.IsVector(nil) || !impl.IsVector([]impl.Rat{}) {
		t.Error("the empty list is no vector")
	}
	edges := edgeRats()
	for i := 0; i+impl.MaxLength <= len(edges); i += 5 {
		if v := edges[i : i+impl.MaxLength]; !impl.IsVector(v) {
			t.Errorf("IsVector(%v) is false", v)
		}
	}
	for _, n := range lengthsAround() {
		if got := impl.IsVector(repeatedRat(n, impl.RatOf(-2, 3))); got != (n <= 24) {
			t.Errorf("IsVector of %d elements is %v", n, got)
		}
	}
}

func TestIsVectorOfInvalid(t *testing.T) {
	for _, bad := range notRats() {
		for _, n := range []int{1, 2, 3, 23, 24, 25, 30} {
			for i := range n {
				if impl.IsVector(replaced(repeatedRat(n, impl.RatFromInt(1)), i, bad)) {
					t.Errorf("IsVector is true with %v at the index %d of %d", bad, i, n)
				}
			}
		}
	}
}

func TestZeroVector(t *testing.T) {
	for n := range 25 {
		if got := impl.ZeroVector(n); !sameVector(got, repeatedRat(n, ratio(plus(), 1))) {
			t.Errorf("ZeroVector(%d) is %v", n, got)
		}
	}
	for _, n := range []int{-1, -2, -24, 25, 26, 48, 1000, math.MinInt, math.MaxInt} {
		if got := impl.ZeroVector(n); got != nil {
			t.Errorf("ZeroVector(%d) is %v", n, got)
		}
	}
}

func TestUnitVector(t *testing.T) {
	for n := range 25 {
		for k := range n {
			want := replaced(repeatedRat(n, ratio(plus(), 1)), k, ratio(plus(1), 1))
			if got := impl.UnitVector(n, k); !sameVector(got, want) {
				t.Errorf("UnitVector(%d, %d) is %v", n, k, got)
			}
		}
		for _, k := range []int{-1, -2, -n - 1, n, n + 1, n + 100, 1000, math.MinInt, math.MaxInt} {
			if got := impl.UnitVector(n, k); len(got) > 0 {
				t.Errorf("UnitVector(%d, %d) is %v", n, k, got)
			}
		}
	}
	for _, n := range []int{-1, -2, -24, 25, 26, 48, 1000, math.MinInt, math.MaxInt} {
		for _, k := range []int{0, 1, 23, 24, 25, -1, n, n - 1, n + 1, n / 2, -n, math.MinInt, math.MaxInt} {
			if got := impl.UnitVector(n, k); got != nil {
				t.Errorf("UnitVector(%d, %d) is %v", n, k, got)
			}
		}
	}
}

func TestVectorExamples(t *testing.T) {
	a, b := vectorOf("1/2", "-3", "0", "7/3"), vectorOf("1/3", "3", "-5/2", "7/3")
	if got, ok := impl.AddVectors(a, b); !ok || !sameVector(got, vectorOf("5/6", "0", "-5/2", "14/3")) {
		t.Errorf("the sums are %v, %v", got, ok)
	}
	if got, ok := impl.SubtractVectors(a, b); !ok || !sameVector(got, vectorOf("1/6", "-6", "5/2", "0")) {
		t.Errorf("the differences are %v, %v", got, ok)
	}
	if got, ok := impl.ScaleVector(impl.RatOf(-3, 2), a); !ok || !sameVector(got, vectorOf("-3/4", "9/2", "0", "-7/2")) {
		t.Errorf("the multiples are %v, %v", got, ok)
	}
	// 1/6 - 9 + 0 + 49/9
	if got, ok := impl.InnerProduct(a, b); !ok || !sameRat(got, impl.RatOf(-61, 18)) {
		t.Errorf("the inner product is %v, %v", got, ok)
	}
}

func TestAddVectors(t *testing.T) {
	eachPairOfVectors(func(a, b []impl.Rat) {
		if got, ok := impl.AddVectors(a, b); !isVectorOf(got, ok, eachNumber(a, b, bigSum)) {
			t.Errorf("AddVectors(%v, %v) is %v, %v", a, b, got, ok)
		}
	})
}

func TestSubtractVectors(t *testing.T) {
	eachPairOfVectors(func(a, b []impl.Rat) {
		if got, ok := impl.SubtractVectors(a, b); !isVectorOf(got, ok, eachNumber(a, b, bigDifference)) {
			t.Errorf("SubtractVectors(%v, %v) is %v, %v", a, b, got, ok)
		}
	})
}

func TestScaleVector(t *testing.T) {
	try := func(r impl.Rat, v []impl.Rat) {
		if got, ok := impl.ScaleVector(r, v); !isVectorOf(got, ok, eachNumber(repeatedRat(len(v), r), v, bigProduct)) {
			t.Errorf("ScaleVector(%v, %v) is %v, %v", r, v, got, ok)
		}
	}
	factors := vectorOf("0", "1", "-1", "2", "-7/3", "1000000001/2")
	eachPairOfVectors(func(a, b []impl.Rat) {
		for _, r := range append(slices.Clone(b[:min(2, len(b))]), factors[len(a)%len(factors)]) {
			try(r, a)
		}
	})
	for _, r := range edgeRats() {
		try(r, nil)
		try(r, vectorOf("0", "1", "-1", "2", "1/3"))
	}
}

func TestInnerProduct(t *testing.T) {
	eachPairOfVectors(func(a, b []impl.Rat) {
		got, ok := impl.InnerProduct(a, b)
		want, wantOk := innerProduct(a, b)
		if ok != wantOk || wantOk && !isRat(got, want) || !wantOk && !isZeroRat(got) {
			t.Errorf("InnerProduct(%v, %v) is %v, %v and not %v, %v", a, b, got, ok, want, wantOk)
		}
	})
}

// TestVectorsWithoutElements is about both ways to write the empty list.
func TestVectorsWithoutElements(t *testing.T) {
	lists := [][]impl.Rat{nil, {}, impl.ZeroVector(0), make([]impl.Rat, 0, 5)}
	for _, a := range lists {
		for _, b := range lists {
			for _, got := range ofPair(a, b) {
				zero := impl.Rat{}
				if got.name == "InnerProduct" {
					zero = ratio(plus(), 1)
				}
				if !got.ok || len(got.vector) > 0 || !sameRat(got.number, zero) {
					t.Errorf("%s of empty vectors is %v", got.name, got)
				}
			}
			if !impl.EqualVectors(a, b) {
				t.Error("empty vectors are not equal")
			}
		}
		if got, ok := impl.ScaleVector(impl.RatFromInt(3), a); len(got) > 0 || !ok {
			t.Errorf("the multiple of an empty vector is %v, %v", got, ok)
		}
		if got := impl.FormatVector(a); got != "" {
			t.Errorf("the text of an empty vector is %q", got)
		}
		for _, bad := range notRats() {
			mustRefuseScale(t, bad, a)
		}
	}
}

// TestVectorLengths has all pairs of lengths, also beyond MaxLength.
func TestVectorLengths(t *testing.T) {
	for _, n := range lengthsAround() {
		a := repeatedRat(n, impl.RatOf(1, 2))
		for _, m := range lengthsAround() {
			b := repeatedRat(m, impl.RatFromInt(2))
			if n != m || n > 24 {
				mustRefusePair(t, a, b)
				continue
			}
			wanted := []pairResult{
				{"AddVectors", repeatedRat(n, impl.RatOf(5, 2)), impl.Rat{}, true},
				{"SubtractVectors", repeatedRat(n, impl.RatOf(-3, 2)), impl.Rat{}, true},
				{"InnerProduct", nil, impl.RatFromInt(n), true},
			}
			for i, got := range ofPair(a, b) {
				if want := wanted[i]; !sameVector(got.vector, want.vector) || !sameRat(got.number, want.number) || !got.ok {
					t.Errorf("%s of %d elements is %v", got.name, n, got)
				}
			}
		}
		if n > 24 {
			mustRefuseScale(t, impl.RatFromInt(0), a)
			mustRefuseScale(t, impl.RatFromInt(3), a)
		} else if got, ok := impl.ScaleVector(impl.RatFromInt(3), a); !ok || !sameVector(got, repeatedRat(n, impl.RatOf(3, 2))) {
			t.Errorf("ScaleVector of %d elements is %v, %v", n, got, ok)
		}
	}
}

// TestVectorOfInvalid puts each value that is not valid at each index, beside
// zeros as well, which must not hide it.
func TestVectorOfInvalid(t *testing.T) {
	for _, bad := range notRats() {
		for _, n := range []int{1, 2, 5, 24} {
			for _, good := range [][]impl.Rat{impl.ZeroVector(n), repeatedRat(n, impl.RatOf(-7, 2))} {
				for i := range n {
					spoiled := replaced(good, i, bad)
					mustRefusePair(t, spoiled, good)
					mustRefusePair(t, good, spoiled)
					mustRefusePair(t, spoiled, spoiled)
					mustRefuseScale(t, impl.RatFromInt(0), spoiled)
					mustRefuseScale(t, impl.RatOf(3, 2), spoiled)
					if got := impl.FormatVector(spoiled); got != "" {
						t.Errorf("FormatVector(%v) is %q", spoiled, got)
					}
				}
				mustRefuseScale(t, bad, good)
			}
		}
		mustRefuseScale(t, bad, []impl.Rat{bad})
		mustRefusePair(t, []impl.Rat{bad}, nil)
		mustRefusePair(t, nil, []impl.Rat{bad})
	}
}

// TestVectorLimit puts a number that is too large at each index of a result,
// and the last one that is not.
func TestVectorLimit(t *testing.T) {
	most, least, tiny := ratio(plus(greatest(24)...), 1), ratio(minus(greatest(24)...), 1), ratio(plus(1), greatest(24)...)
	one, half, zero := impl.RatFromInt(1), impl.RatOf(1, 2), impl.RatFromInt(0)
	for _, n := range []int{1, 2, 3, 24} {
		ones, zeros := repeatedRat(n, one), impl.ZeroVector(n)
		for i := range n {
			if got, ok := impl.AddVectors(replaced(ones, i, most), ones); ok || got != nil {
				t.Errorf("a sum at the index %d of %d is too large: %v", i, n, got)
			}
			if got, ok := impl.SubtractVectors(replaced(ones, i, least), ones); ok || got != nil {
				t.Errorf("a difference at the index %d of %d is too large: %v", i, n, got)
			}
			mustRefuseScale(t, impl.RatFromInt(2), replaced(ones, i, most))
			mustRefuseScale(t, half, replaced(ones, i, tiny))
			for _, long := range []impl.Rat{most, tiny} {
				if got, ok := impl.InnerProduct(replaced(zeros, i, long), replaced(zeros, i, long)); ok || !isZeroRat(got) {
					t.Errorf("a product at the index %d of %d is too large: %v", i, n, got)
				}
			}
			if got, ok := impl.AddVectors(replaced(zeros, i, most), zeros); !ok || !sameVector(got, replaced(zeros, i, most)) {
				t.Errorf("a sum at the index %d of %d fits, but is %v, %v", i, n, got, ok)
			}
			if got, ok := impl.SubtractVectors(replaced(ones, i, zero), replaced(ones, i, most)); !ok || !sameVector(got, replaced(zeros, i, least)) {
				t.Errorf("a difference at the index %d of %d fits, but is %v, %v", i, n, got, ok)
			}
			if got, ok := impl.ScaleVector(impl.RatFromInt(-1), replaced(zeros, i, most)); !ok || !sameVector(got, replaced(zeros, i, least)) {
				t.Errorf("a multiple at the index %d of %d fits, but is %v, %v", i, n, got, ok)
			}
			if got, ok := impl.InnerProduct(replaced(zeros, i, most), ones); !ok || !sameRat(got, most) {
				t.Errorf("a product at the index %d of %d fits, but is %v, %v", i, n, got, ok)
			}
		}
	}
}

// sumInOrder is the text of an inner product, or the empty text if a sum on the
// way is too large.
type sumInOrder struct {
	a, b []string
	want string
}

// sumsInOrder are sums that are too large in one order only.
func sumsInOrder() []sumInOrder {
	most := impl.FormatRat(ratio(plus(greatest(24)...), 1))
	tiny := "1/" + most
	return []sumInOrder{
		{[]string{"-1", most, "1"}, []string{"1", "1", "1"}, most},
		{[]string{"1", most, "-1"}, []string{"1", "1", "1"}, ""},
		{[]string{most, "1", "-1"}, []string{"1", "1", "1"}, ""},
		{[]string{most, "-1", "1"}, []string{"1", "1", "1"}, most},
		{[]string{"1", "-1", most}, []string{"1", "1", "1"}, most},
		{[]string{most, most, "-" + most}, []string{"1", "1", "1"}, ""},
		{[]string{most, "-" + most, most}, []string{"1", "1", "1"}, most},
		{[]string{most, most}, []string{"1", "-1"}, "0"},
		{[]string{"-1", "-" + most, "1"}, []string{"1", "1", "1"}, ""},
		{[]string{"1", "-" + most, "-1"}, []string{"1", "1", "1"}, "-" + most},
		{[]string{"1/2", tiny, "-1/2"}, []string{"1", "1", "1"}, ""},
		{[]string{"1/2", "-1/2", tiny}, []string{"1", "1", "1"}, tiny},
		{[]string{most, most}, []string{most, "-" + most}, ""},
		{[]string{"2", "-2", "1"}, []string{most, most, "1"}, ""},
		{[]string{most, "0"}, []string{tiny, most}, "1"},
		{[]string{"0", most, "0"}, []string{most, "0", "-" + most}, "0"},
	}
}

func TestInnerProductOrder(t *testing.T) {
	for i, c := range sumsInOrder() {
		for _, pair := range [][2][]string{{c.a, c.b}, {c.b, c.a}} {
			got, ok := impl.InnerProduct(vectorOf(pair[0]...), vectorOf(pair[1]...))
			if ok != (c.want != "") || impl.FormatRat(got) != c.want || !ok && !isZeroRat(got) {
				t.Errorf("the inner product %d is %v, %v", i, got, ok)
			}
		}
	}
}

// TestVectorLaws ties sums, differences, multiples and inner products to each
// other.
func TestVectorLaws(t *testing.T) {
	random := rand.New(rand.NewSource(14))
	for k := range 150 {
		n := k % (impl.MaxLength + 1)
		a, b := make([]impl.Rat, n), make([]impl.Rat, n)
		for i := range n {
			a[i], b[i] = impl.RatOf(random.Intn(199)-99, random.Intn(9)+1), impl.RatOf(random.Intn(199)-99, random.Intn(9)+1)
		}
		r := impl.RatOf(random.Intn(21)-10, random.Intn(9)+1)
		sums, _ := impl.AddVectors(a, b)
		swapped, _ := impl.AddVectors(b, a)
		back, _ := impl.SubtractVectors(sums, b)
		negatives, _ := impl.ScaleVector(impl.RatFromInt(-1), b)
		added, _ := impl.SubtractVectors(a, negatives)
		if !sameVector(sums, swapped) || !sameVector(back, a) || !sameVector(added, sums) {
			t.Errorf("the sums of %v and %v are %v, %v and %v", a, b, sums, swapped, added)
		}
		scaled, _ := impl.ScaleVector(r, a)
		product, _ := impl.InnerProduct(a, b)
		multiple, ok := impl.InnerProduct(scaled, b)
		if !ok || !sameRat(multiple, impl.RatMul(r, product)) {
			t.Errorf("the inner products of %v and of its multiple %v with %v are %v and %v", a, scaled, b, product, multiple)
		}
		for i := range n {
			if got, ok := impl.InnerProduct(a, impl.UnitVector(n, i)); !ok || !sameRat(got, a[i]) {
				t.Errorf("the inner product of %v and the unit vector %d is %v, %v", a, i, got, ok)
			}
		}
	}
}

// TestEqualVectors is about fields and elements, so also about lists that are
// not valid or longer than a vector.
func TestEqualVectors(t *testing.T) {
	lists := [][]impl.Rat{
		nil, {{}}, vectorOf("0"), vectorOf("1"), vectorOf("-1"), vectorOf("0", "0"), vectorOf("1", "2"), vectorOf("2", "1"), vectorOf("1", "2", "3"), vectorOf("1/2", "2"),
		vectorOf("1", "1/2"), {ratio(plus(1), 1), ratio(plus(2), 4)}, {ratio(plus(1), 1), ratio(plus(1, 0), 2)}, {ratio(plus(1), 1), {}}, {{}, {}}, {{}, ratio(plus(1), 1)},
		{ratio(minus(), 1)}, {ratio(plus(), 2)}, {ratio(plus(1), 1, 0)},
	}
	for _, n := range []int{23, 24, 25, 26, 100} {
		same := repeatedRat(n, impl.RatOf(-5, 7))
		lists = append(lists, same, replaced(same, 0, impl.RatOf(5, 7)), replaced(same, n-1, impl.RatOf(-5, 8)), replaced(same, n/2, impl.Rat{}), replaced(same, n-1, impl.Rat{}))
	}
	for _, bad := range notRats() {
		lists = append(lists, []impl.Rat{impl.RatFromInt(9), bad})
	}
	for i, a := range lists {
		if !impl.EqualVectors(a, clonedVector(a)) || !impl.EqualVectors(a, a) {
			t.Errorf("EqualVectors of the list %d and itself is false", i)
		}
		for k, b := range lists {
			if got := impl.EqualVectors(a, b); got != sameVector(a, b) {
				t.Errorf("EqualVectors of the lists %d and %d is %v", i, k, got)
			}
		}
	}
	// A nil list and an empty one are the same, within elements too.
	a, b := []impl.Rat{{}, ratio(impl.BigInt{Mag: []int{}}, 1)}, []impl.Rat{ratio(impl.BigInt{Mag: []int{}}, []int{}...), ratio(plus(), 1)}
	if !impl.EqualVectors(a, b) || !impl.EqualVectors(nil, []impl.Rat{}) {
		t.Error("EqualVectors of nil and empty lists is false")
	}
}

// TestEqualVectorsAtEachIndex differs at one index only.
func TestEqualVectorsAtEachIndex(t *testing.T) {
	for _, n := range lengthsAround() {
		v := repeatedRat(n, impl.RatOf(1, 3))
		for i := range n {
			v[i] = impl.RatOf(i-7, 3)
		}
		for i := range min(n, 40) {
			if impl.EqualVectors(v, replaced(v, i, impl.RatOf(100001, 3))) || impl.EqualVectors(replaced(v, i, impl.Rat{}), v) {
				t.Errorf("EqualVectors is true with a difference at the index %d of %d", i, n)
			}
		}
		if n > 0 && (impl.EqualVectors(v, v[:n-1]) || impl.EqualVectors(v[:n-1], v)) {
			t.Errorf("EqualVectors of %d elements and of one less is true", n)
		}
	}
}

func TestFormatVector(t *testing.T) {
	cases := []struct {
		v    []impl.Rat
		want string
	}{
		{nil, ""}, {[]impl.Rat{}, ""}, {[]impl.Rat{ratio(plus(), 1)}, "0"}, {[]impl.Rat{ratio(minus(3), 2)}, "-3/2"},
		{[]impl.Rat{ratio(plus(1), 2), ratio(minus(7), 1), ratio(impl.BigInt{Mag: []int{}}, 1)}, "1/2 -7 0"},
		{[]impl.Rat{ratio(plus(1), 0, 1), ratio(minus(7, 1), 120, 34, 5)}, "1/1000000000 -1000000007/5000000034000000120"},
		{repeatedRat(24, ratio(minus(1), 3)), strings.Repeat("-1/3 ", 23) + "-1/3"},
		{repeatedRat(25, ratio(minus(1), 3)), ""}, {repeatedRat(1000, ratio(plus(1), 1)), ""}, {[]impl.Rat{{}}, ""}, {[]impl.Rat{ratio(plus(1), 1), {}}, ""},
	}
	for _, c := range cases {
		if got := impl.FormatVector(c.v); got != c.want {
			t.Errorf("FormatVector(%v) is %q, not %q", c.v, got, c.want)
		}
	}
}

// TestParseVectorOfFormatVector also compares both with the texts of math/big.
func TestParseVectorOfFormatVector(t *testing.T) {
	try := func(v []impl.Rat) {
		words := make([]string, len(v))
		for i, r := range v {
			words[i] = toBigRat(r).RatString()
		}
		text := impl.FormatVector(v)
		if want := strings.Join(words, " "); text != want {
			t.Errorf("FormatVector(%v) is %q, not %q", v, text, want)
		}
		if got, ok := impl.ParseVector(text); !ok || !sameVector(got, v) {
			t.Errorf("ParseVector(%q) is %v, %v", text, got, ok)
		}
	}
	edges := edgeRats()
	for i, r := range edges {
		try([]impl.Rat{r})
		try(edges[i:min(i+i%25, len(edges))])
	}
	random := rand.New(rand.NewSource(15))
	for k := range 500 {
		try(randomVector(random, k%(impl.MaxLength+1), k*7%impl.MaxRat+1))
	}
}

func TestParseVectorLengths(t *testing.T) {
	for _, n := range lengthsAround() {
		if n == 0 {
			continue
		}
		text := strings.Repeat("-2/3 ", n-1) + "-2/3"
		got, ok := impl.ParseVector(text)
		if n <= 24 && (!ok || !sameVector(got, repeatedRat(n, impl.RatOf(-2, 3)))) || n > 24 && (ok || got != nil) {
			t.Errorf("ParseVector of %d words is %v, %v", n, got, ok)
		}
	}
	if got, ok := impl.ParseVector(""); len(got) > 0 || !ok {
		t.Errorf("ParseVector of the empty text is %v, %v", got, ok)
	}
}

func TestParseVectorRefuses(t *testing.T) {
	bad := []string{
		" ", "  ", " 1", "1 ", "1  2", " 1 2", "1 2 ", "  1", "1  ", "1\t2", "1\n2", "1 2\n", "\n", "1,2", "1, 2", "1;2", "1\u00a02", "1\x002", "1 \x00", "\x00", "\xff", "1 \xff",
		"2/4", "1 2/4", "2/4 1", "1/1", "1 0/1", "-0", "1 -0", "01", "1 02 3", "+1", "1 +2", "1/0", "1 1/0", "0/2 1", "1 / 2", "1/ 2", "1 /2", "- 1", "1 - 2",
		"a", "1 a", "a 1", "1 2 x 3", "1.5", "1 1e3", "-", "/", "1 -", "1 /", "1//2", "1 1/2/3", "[1 2]", "1 2]", "１", "1 ２",
		strings.Repeat("9", 217), "1 " + strings.Repeat("9", 217), "1/" + strings.Repeat("9", 217) + " 1", strings.Repeat("9", 100000), "1 " + strings.Repeat("9", 100000),
		strings.Repeat(" ", 23), strings.Repeat(" ", 24), strings.Repeat(" ", 100000), strings.Repeat("1 ", 23), strings.Repeat("1 ", 24), strings.Repeat("1 ", 100000),
		strings.Repeat("1 ", 23) + "2/4", strings.Repeat("1 ", 23) + "1 ", strings.Repeat("1 ", 23) + " 1",
	}
	for _, s := range bad {
		if got, ok := impl.ParseVector(s); ok || got != nil {
			t.Errorf("ParseVector(%.50q) is %v, %v", s, got, ok)
		}
	}
}

// TestParseVectorAcceptsOnlyFormatVector tries all texts of up to five bytes
// from an alphabet of the bytes that matter.
func TestParseVectorAcceptsOnlyFormatVector(t *testing.T) {
	for _, s := range textsUpTo(5, " -/012\n") {
		want := true
		var numbers []*big.Rat
		for _, word := range strings.Split(s, " ") {
			// math/big accepts more texts, but writes only the one in lowest terms.
			value, read := new(big.Rat).SetString(word)
			want = want && read && value.RatString() == word
			numbers = append(numbers, value)
		}
		if s == "" {
			want, numbers = true, nil
		}
		got, ok := impl.ParseVector(s)
		if ok != want || ok && (!isVectorOf(got, ok, numbers) || impl.FormatVector(got) != s) || !ok && got != nil {
			t.Errorf("ParseVector(%q) is %v, %v", s, got, ok)
		}
	}
}

// vectorWithRoom is the same vector with room behind it and behind the lists
// of its elements. The room must not change.
func vectorWithRoom(v []impl.Rat) []impl.Rat {
	list := make([]impl.Rat, 0, len(v)+2)
	for _, r := range append(slices.Clone(v), impl.RatOf(71, 72), impl.RatFromInt(73)) {
		mag, den := withRoom(r.Num.Mag), withRoom(r.Den)
		list = append(list, impl.Rat{Num: impl.BigInt{Neg: r.Num.Neg, Mag: mag[:len(r.Num.Mag)]}, Den: den[:len(r.Den)]})
	}
	return list[:len(v)]
}

// roomIsKept tells whether v is what vectorWithRoom made of want.
func roomIsKept(v, want []impl.Rat) bool {
	all := v[:len(v)+2]
	for i, r := range append(slices.Clone(want), impl.RatOf(71, 72), impl.RatFromInt(73)) {
		mag, den := all[i].Num.Mag, all[i].Den
		if all[i].Num.Neg != r.Num.Neg || len(mag) != len(r.Num.Mag) || len(den) != len(r.Den) {
			return false
		}
		if !slices.Equal(mag[:len(mag)+3], withRoom(r.Num.Mag)) || !slices.Equal(den[:len(den)+3], withRoom(r.Den)) {
			return false
		}
	}
	return true
}

// vectorResults are all vectors and fractions, as vectors of one element, that
// the functions return.
func vectorResults(r impl.Rat, a, b []impl.Rat) [][]impl.Rat {
	sums, _ := impl.AddVectors(a, b)
	differences, _ := impl.SubtractVectors(a, b)
	multiples, _ := impl.ScaleVector(r, a)
	product, _ := impl.InnerProduct(a, b)
	parsed, _ := impl.ParseVector(impl.FormatVector(a))
	return [][]impl.Rat{sums, differences, multiples, {product}, parsed, impl.ZeroVector(len(a)), impl.UnitVector(len(a), len(a)/2)}
}

// mustBeApart spoils results list by list, and each one only after it was
// compared with the same result of other arguments.
func mustBeApart(t *testing.T, got, want [][]impl.Rat) {
	t.Helper()
	for i := range got {
		if len(got[i]) != len(want[i]) {
			t.Errorf("the result %d is %v, not %v", i, got[i], want[i])
			continue
		}
		for k, r := range got[i] {
			num := sameBigInt(r.Num, want[i][k].Num)
			spoil(r.Num.Mag)
			if !num || !slices.Equal(r.Den, want[i][k].Den) {
				t.Errorf("the element %d of the result %d is %v after spoiling those before it, not %v", k, i, r, want[i][k])
			}
			spoil(r.Den)
		}
		list := got[i][:cap(got[i])]
		for k := range list {
			list[k] = ratio(plus(-5), -5)
		}
	}
}

// TestVectorMemory checks that neither the arguments, with the room behind
// them, nor the other results change when results are spoiled.
func TestVectorMemory(t *testing.T) {
	long := impl.FormatRat(ratio(minus(greatest(24)...), power(23)...))
	vectors := [][]impl.Rat{
		nil, vectorOf("0"), vectorOf("1"), vectorOf("-7/3"), vectorOf("0", "0", "0"), vectorOf("1", "1", "1"), vectorOf("1/2", "-12/5", "1000000007/3"),
		vectorOf("0", "1", long), vectorOf("5", "-1/7", "0"), {{}}, {ratio(plus(1), 1), {}, ratio(plus(2), 4)}, repeatedRat(24, impl.RatOf(5, 3)), impl.ZeroVector(24), repeatedRat(26, impl.RatFromInt(1)),
	}
	for _, x := range vectors {
		for _, y := range vectors {
			for _, factor := range vectorOf("0", "1", "-1", "3/2") {
				r, a, b := vectorWithRoom([]impl.Rat{factor}), vectorWithRoom(x), vectorWithRoom(y)
				impl.IsVector(a)
				impl.EqualVectors(a, b)
				impl.FormatVector(b)
				mustBeApart(t, vectorResults(r[0], a, b), vectorResults(clonedRat(factor), clonedVector(x), clonedVector(y)))
				if !roomIsKept(r, []impl.Rat{factor}) || !roomIsKept(a, x) || !roomIsKept(b, y) {
					t.Errorf("the arguments %v, %v and %v were changed to %v, %v and %v", factor, x, y, r, a, b)
				}
			}
		}
	}
}

// TestVectorSameArgument gives one vector as both arguments, one of its
// elements as the factor, and elements whose lists are one list.
func TestVectorSameArgument(t *testing.T) {
	unit := []int{1}
	one := impl.Rat{Num: impl.BigInt{Mag: unit}, Den: unit}
	vectors := [][]impl.Rat{vectorOf("1", "2", "3"), vectorOf("-1/2", "0", "5/3"), {one}, {one, one, one}, slices.Repeat([]impl.Rat{impl.RatOf(-5, 2)}, 24), slices.Repeat([]impl.Rat{one}, 25)}
	for _, v := range vectors {
		x := clonedVector(v)
		mustBeApart(t, vectorResults(v[0], v, v), vectorResults(clonedRat(x[0]), clonedVector(x), clonedVector(x)))
		if !sameVector(v, x) || !impl.EqualVectors(v, v) {
			t.Errorf("the argument %v was changed to %v", x, v)
		}
	}
}

// TestVectorNewResults spoils results of calls without vectors as arguments.
func TestVectorNewResults(t *testing.T) {
	text := "0 1 -1 2 1/2 -1/2 7 0 1"
	want := vectorOf(strings.Split(text, " ")...)
	for range 2 {
		zeros, unit := impl.ZeroVector(9), impl.UnitVector(9, 4)
		parsed, _ := impl.ParseVector(text)
		mustBeApart(t, [][]impl.Rat{zeros, unit, parsed}, [][]impl.Rat{
			repeatedRat(9, ratio(plus(), 1)), replaced(repeatedRat(9, ratio(plus(), 1)), 4, ratio(plus(1), 1)), want,
		})
	}
}
