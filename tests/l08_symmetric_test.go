package tests

import (
	"math"
	"math/big"
	"math/rand"
	"slices"
	"strings"
	"testing"

	"loop.example/g00830/impl"
)

// bigFactor is the factor and its numbers, computed by columns and without the
// program, or two times one nil for a matrix that has none.
func bigFactor(m impl.Matrix) ([]*big.Rat, []*big.Rat) {
	none, n, tooLarge := []*big.Rat{nil}, m.Rows, false
	lower, d := make([]*big.Rat, n*n), make([]*big.Rat, n)
	for i := range lower {
		lower[i] = new(big.Rat)
	}
	note := func(x *big.Rat) *big.Rat {
		tooLarge = tooLarge || !fits(x)
		return x
	}
	left := func(i, k int) *big.Rat {
		x := toBigRat(m.Cells[i*n+k])
		for j := range k {
			product := note(bigProduct(lower[i*n+j], lower[k*n+j]))
			x = note(bigDifference(x, note(bigProduct(product, d[j]))))
		}
		return x
	}
	for k := range n {
		if d[k] = left(k, k); d[k].Sign() <= 0 {
			return none, none
		}
		lower[k*n+k].SetInt64(1)
		for i := k + 1; i < n; i++ {
			lower[i*n+k].Quo(left(i, k), d[k])
			note(lower[i*n+k])
		}
	}
	if tooLarge {
		return none, none
	}
	return lower, d
}

// mustFactor compares what Factor and IsPositive return for a symmetric matrix
// with the factor without the program, and tells whether there is one.
func mustFactor(t *testing.T, m impl.Matrix) bool {
	t.Helper()
	wantLower, wantD := bigFactor(m)
	exists := !slices.Contains(wantD, nil)
	lower, d, ok := impl.Factor(m)
	if !isMatrixOf(lower, ok, m.Rows, m.Rows, wantLower) || !isVectorOrNone(d, ok, wantD) {
		t.Errorf("Factor(%.300v) is %.300v, %.300v, %v", m, lower, d, ok)
	}
	if impl.IsPositive(m) != exists {
		t.Errorf("IsPositive(%.300v) is %v", m, !exists)
	}
	return exists
}

// mustRefuseFactor and the functions below check that a result is refused.
func mustRefuseFactor(t *testing.T, m impl.Matrix) {
	t.Helper()
	if lower, d, ok := impl.Factor(m); ok || !isZeroMatrix(lower) || d != nil {
		t.Errorf("Factor(%.300v) is %.300v, %.300v, %v", m, lower, d, ok)
	}
	if impl.IsPositive(m) {
		t.Errorf("IsPositive(%.300v) is true", m)
	}
}

func mustRefuseForm(t *testing.T, m impl.Matrix, v []impl.Rat) {
	t.Helper()
	if got, ok := impl.QuadraticForm(m, v); ok || !isZeroRat(got) {
		t.Errorf("QuadraticForm(%.300v, %.300v) is %v, %v", m, v, got, ok)
	}
}

func mustRefuseTrace(t *testing.T, m impl.Matrix) {
	t.Helper()
	if got, ok := impl.TraceOf(m); ok || !isZeroRat(got) {
		t.Errorf("TraceOf(%.300v) is %v, %v", m, got, ok)
	}
}

func mustRefuseSubmatrix(t *testing.T, m impl.Matrix, list []int) {
	t.Helper()
	if got, ok := impl.Submatrix(m, list); ok || !isZeroMatrix(got) {
		t.Errorf("Submatrix(%.300v, %.300v) is %.300v, %v", m, list, got, ok)
	}
}

// mustRefuseSquare checks that all functions refuse a matrix that is not valid
// or no square.
func mustRefuseSquare(t *testing.T, m impl.Matrix) {
	t.Helper()
	if impl.IsSymmetric(m) {
		t.Errorf("IsSymmetric(%.300v) is true", m)
	}
	mustRefuseFactor(t, m)
	for _, n := range []int{0, 1, m.Rows, m.Cols, 24} {
		if n >= 0 && n <= 24 {
			mustRefuseForm(t, m, repeatedRat(n, impl.RatFromInt(0)))
			mustRefuseForm(t, m, repeatedRat(n, impl.RatOf(1, 2)))
			mustRefuseSubmatrix(t, m, firstIndices(n))
		}
	}
	if got := impl.DiagonalOf(m); got != nil {
		t.Errorf("DiagonalOf(%.300v) is %v", m, got)
	}
	mustRefuseTrace(t, m)
	mustRefuseSubmatrix(t, m, []int{1})
}

func firstIndices(n int) []int {
	list := make([]int, n)
	for i := range list {
		list[i] = i
	}
	return list
}

// mirrored is the symmetric matrix with the lower part of m.
func mirrored(m impl.Matrix) impl.Matrix {
	n := m.Rows
	for i := range n {
		for k := range i {
			m = withCell(m, k, i, m.Cells[i*n+k])
		}
	}
	return m
}

// unitLower has the part of m below the diagonal, and 1 in the diagonal.
func unitLower(m impl.Matrix) impl.Matrix {
	lower := unitMatrix(m.Rows)
	for i := range m.Rows {
		copy(rowIn(lower, i)[:i], clonedVector(rowIn(m, i)[:i]))
	}
	return lower
}

// composed is the product of a lower triangular matrix, the diagonal matrix
// with d and the transpose, computed without the program. It need not be valid.
func composed(lower impl.Matrix, d []impl.Rat) impl.Matrix {
	m := unitMatrix(lower.Rows)
	for i := range m.Rows {
		for k := range i + 1 {
			sum := new(big.Rat)
			for j, product := range eachNumber(rowIn(lower, i)[:k+1], rowIn(lower, k), bigProduct) {
				sum.Add(sum, product.Mul(product, toBigRat(d[j])))
			}
			rowIn(m, i)[k], rowIn(m, k)[i] = ratOfBig(sum), ratOfBig(sum)
		}
	}
	return m
}

// isLarge tells whether an element is too large.
func isLarge(m impl.Matrix) bool {
	return slices.ContainsFunc(m.Cells, func(r impl.Rat) bool { return !impl.RatOk(r) })
}

// positives are n positive numbers.
func positives(random *rand.Rand, n int) []impl.Rat {
	d := make([]impl.Rat, n)
	for k := range d {
		d[k] = impl.RatOf(random.Intn(9)+1, random.Intn(4)+1)
	}
	return d
}

// eachSymmetric calls try with symmetric matrices. About half of them have
// factors; of some the numbers on the way are too large.
func eachSymmetric(try func(m impl.Matrix)) {
	random := rand.New(rand.NewSource(31))
	for _, n := range []int{0, 1, 2, 3, 4, 5, 6, 7, 8, 12, 13, 23, 24} {
		lower := unitLower(sparseMatrix(random, n, n))
		try(composed(lower, positives(random, n)))
		try(composed(unitLower(smallMatrix(random, n, n)), positives(random, n)))
		try(mirrored(sparseMatrix(random, n, n)))
	}
	steep := []string{"0", "0", "1", "-1", "2", powerText(11), powerText(12), powerText(-12), "-" + powerText(-11), powerText(6), "1/1" + powerText(5), "1/2", "1/7"}
	for k := range 800 {
		n := k%5 + 1
		try(mirrored(smallMatrix(random, n, n)))
		// Nearly all of these have factors.
		m := smallMatrix(random, n, n)
		for i := range n {
			m.Cells[i*n+i] = impl.RatFromInt(20 + random.Intn(30))
		}
		try(mirrored(m))
		d := chosen(random, n, 1, steep).Cells
		if m := composed(unitLower(chosen(random, n, n, steep)), d); !isLarge(m) {
			try(m)
		}
		try(mirrored(chosen(random, n, n, steep)))
		try(mirrored(randomMatrix(random, n%3+1, n%3+1, k%9+1)))
	}
}

func TestIsSymmetric(t *testing.T) {
	cases := []struct {
		m    impl.Matrix
		want bool
	}{
		{impl.Matrix{}, true},
		{filled(0, 0, []impl.Rat{}), true},
		{filled(0, 1, nil), false},
		{filled(1, 0, nil), false},
		{filled(24, 0, nil), false},
		{written(1, 1, "-7/3"), true},
		{written(2, 2, "1 2 2 1"), true},
		{written(2, 2, "1 2 3 1"), false},
		{written(2, 2, "1 2 -2 1"), false},
		{written(2, 2, "1 1/2 1/3 1"), false},
		{written(2, 2, "0 0 0 0"), true},
		{written(1, 2, "1 1"), false},
		{written(1, 4, "1 2 2 1"), false},
		{written(4, 1, "1 1 1 1"), false},
		{written(3, 3, "1 2 3 2 4 5 3 5 6"), true},
		{written(3, 3, "1 2 3 2 4 5 3 6 6"), false},
		// A half turn leaves this one as it is.
		{written(3, 3, "1 2 3 4 5 4 3 2 1"), false},
	}
	for i, c := range cases {
		if got := impl.IsSymmetric(c.m); got != c.want {
			t.Errorf("IsSymmetric of the matrix %d is %v", i, got)
		}
	}
	eachSymmetric(func(m impl.Matrix) {
		if !impl.IsSymmetric(m) || !impl.IsSymmetric(mirrored(m)) {
			t.Errorf("IsSymmetric(%.300v) is false", m)
		}
	})
}

// TestNotSymmetric differs in one element: of matrices that have factors, and
// of which the lower or the upper part alone does not show it.
func TestNotSymmetric(t *testing.T) {
	random := rand.New(rand.NewSource(32))
	for _, n := range []int{2, 3, 4, 7, 24} {
		for _, m := range []impl.Matrix{unitMatrix(n), composed(unitLower(smallMatrix(random, n, n)), positives(random, n))} {
			if !mustFactor(t, m) || !impl.IsSymmetric(m) {
				t.Errorf("%.300v has no factor", m)
			}
			for i := range n {
				for k := range n {
					if i == k {
						continue
					}
					r := impl.RatAdd(m.Cells[i*n+k], impl.RatOf(1, 1000))
					other := withCell(m, i, k, r)
					if impl.IsSymmetric(other) {
						t.Errorf("IsSymmetric(%.300v) is true", other)
					}
					mustRefuseFactor(t, other)
				}
			}
		}
	}
}

func TestFactorExamples(t *testing.T) {
	cases := []struct {
		m, lower impl.Matrix
		d        string
	}{
		{impl.Matrix{}, impl.Matrix{}, ""},
		{written(1, 1, "7/3"), written(1, 1, "1"), "7/3"},
		{written(2, 2, "4 2 2 3"), written(2, 2, "1 0 1/2 1"), "4 2"},
		{written(2, 2, "1/2 -3 -3 20"), written(2, 2, "1 0 -6 1"), "1/2 2"},
		{written(3, 3, "4 12 -16 12 37 -43 -16 -43 98"), written(3, 3, "1 0 0 3 1 0 -4 5 1"), "4 1 9"},
		{written(3, 3, "2 -1 0 -1 2 -1 0 -1 2"), written(3, 3, "1 0 0 -1/2 1 0 0 -2/3 1"), "2 3/2 4/3"},
		{written(3, 3, "5 0 0 0 1/7 0 0 0 1"), written(3, 3, "1 0 0 0 1 0 0 0 1"), "5 1/7 1"},
	}
	for i, c := range cases {
		lower, d, ok := impl.Factor(c.m)
		if !ok || !sameMatrix(lower, c.lower) || impl.FormatVector(d) != c.d || !impl.IsPositive(c.m) {
			t.Errorf("the factor %d is %v, %v, %v", i, lower, d, ok)
		}
	}
	for _, m := range []impl.Matrix{
		written(1, 1, "0"), written(1, 1, "-1"), written(1, 1, "-1/1000000000"), written(2, 2, "1 2 2 1"), written(2, 2, "1 2 2 4"), written(2, 2, "0 0 0 1"), written(2, 2, "0 1 1 0"),
		written(2, 2, "1 0 0 0"), written(2, 2, "-1 0 0 -1"), written(2, 2, "1 2 3 9"), written(2, 2, "1 0 1 1"), written(3, 3, "1 1 1 1 1 1 1 1 1"), written(3, 3, "2 -1 -1 -1 2 -1 -1 -1 2"),
	} {
		mustRefuseFactor(t, m)
	}
}

func TestFactor(t *testing.T) {
	with, without := 0, 0
	eachSymmetric(func(m impl.Matrix) {
		if mustFactor(t, m) {
			with++
		} else {
			without++
		}
	})
	if with < 1000 || without < 1000 {
		t.Errorf("there are %d matrices with factors, and %d without", with, without)
	}
}

// TestFactorOfProducts finds the numbers of which matrices of all sizes were
// made, and makes them again with the program's products.
func TestFactorOfProducts(t *testing.T) {
	random := rand.New(rand.NewSource(33))
	for n := range 25 {
		for k := range 4 {
			want, wantD := unitLower(sparseMatrix(random, n, n)), positives(random, n)
			if k == 0 {
				want = unitLower(smallMatrix(random, n, n))
			}
			m := composed(want, wantD)
			lower, d, ok := impl.Factor(m)
			if !ok || !sameMatrix(lower, want) || !sameVector(d, wantD) || !impl.IsPositive(m) {
				t.Errorf("Factor(%.300v) is %.300v, %.300v, %v", m, lower, d, ok)
			}
			middle := unitMatrix(n)
			for i, r := range d {
				middle.Cells[i*n+i] = r
			}
			product, _ := impl.Multiply(lower, middle)
			if product, ok := impl.Multiply(product, impl.Transpose(lower)); !ok || !sameMatrix(product, m) {
				t.Errorf("the product of the factors of %.300v is %.300v", m, product)
			}
		}
	}
}

// TestFactorOfNotPositive has one number that is 0 or negative, at each index.
func TestFactorOfNotPositive(t *testing.T) {
	random := rand.New(rand.NewSource(34))
	for _, n := range []int{1, 2, 3, 5, 12, 24} {
		for k := range n {
			lower, d := unitLower(sparseMatrix(random, n, n)), positives(random, n)
			for _, text := range []string{"0", "-1", "-1/2", "-1000000000000"} {
				mustRefuseFactor(t, composed(lower, replaced(d, k, vectorOf(text)[0])))
				mustRefuseFactor(t, composed(unitMatrix(n), replaced(d, k, vectorOf(text)[0])))
			}
			if !mustFactor(t, composed(lower, replaced(d, k, vectorOf("1/1000000000000")[0]))) {
				t.Errorf("a small number at %d of %d is refused", k, n)
			}
		}
		// Only the numbers, and not the elements, show these.
		mustRefuseFactor(t, uniform(n, n, impl.RatFromInt(-1)))
		if n > 1 {
			mustRefuseFactor(t, uniform(n, n, impl.RatFromInt(1)))
		}
	}
}

// framed has m in its lower right corner, and 1 in the rest of the diagonal.
func framed(m impl.Matrix, before int) impl.Matrix {
	frame := unitMatrix(before + m.Rows)
	for i := range m.Rows {
		copy(rowIn(frame, before+i)[before:], clonedVector(rowIn(m, i)))
	}
	return frame
}

// TestFactorLimit is about numbers on the way that are too large, or just not.
// That the numbers of the program are computed by rows is not visible.
func TestFactorLimit(t *testing.T) {
	// The first and the second number fit, and so does the square of the second,
	// but not their product, which is in lowest terms below 1.
	powerOf := func(base, n int64) *big.Int { return new(big.Int).Exp(big.NewInt(base), big.NewInt(n), nil) }
	first, firstRoot := powerOf(2, 370).String(), powerOf(2, 185).String()
	second, secondRoot := powerOf(5, 152).String(), powerOf(5, 76).String()
	both := new(big.Int).Mul(powerOf(5, 152), powerOf(2, 185)).String()
	bothRoots := new(big.Int).Mul(powerOf(5, 76), powerOf(2, 185)).String()
	over := func(text string) string { return "1/" + text }
	more := func(text string) string { return impl.FormatRat(impl.RatAdd(vectorOf(text)[0], impl.RatFromInt(1))) }
	pair := func(below ...string) impl.Matrix {
		return mirrored(written(3, 3, "1 0 0 0 1 0 "+strings.Join(below, " ")))
	}
	four := func(below ...string) impl.Matrix {
		roots := over(firstRoot) + " " + over(secondRoot)
		return mirrored(written(4, 4, "1 0 0 0 0 1 0 0 "+roots+" "+more(over(first))+" 0 "+roots+" "+strings.Join(below, " ")))
	}
	cases := []struct {
		m    impl.Matrix
		want bool
	}{
		// A square that is too large, though its product with d fits.
		{written(2, 2, powerText(-12)+" 1 1 "+powerText(13)), false},
		{written(2, 2, powerText(-11)+" 1 1 "+powerText(13)), true},
		{written(2, 2, powerText(12)+" 1 1 1"), false},
		{written(2, 2, powerText(11)+" 1 1 1"), true},
		// A product with d that is too large, though the square fits.
		{mirrored(written(2, 2, over(second)+" 0 "+over(both)+" 1")), false},
		{mirrored(written(2, 2, over(secondRoot)+" 0 "+over(bothRoots)+" 1")), true},
		// Differences from the first product that are too large, or from the second.
		{pair(over(firstRoot), over(secondRoot), more(over(first))), true},
		{pair(over(firstRoot), over(secondRoot), more(over(second))), false},
		{pair(over(secondRoot), over(firstRoot), more(over(first))), false},
		{pair(over(secondRoot), over(firstRoot), more(over(second))), true},
		{pair(over(firstRoot), over(secondRoot), "2"), false},
		{four(over(first), more(over(first))), true},
		{four(over(second), more(over(first))), false},
		{four(over(first), more(over(second))), false},
		{four("0", more(over(first))), false},
		// A quotient that is too large.
		{written(2, 2, powerText(13)+" "+powerText(-11)+" "+powerText(-11)+" 1"), false},
		{written(2, 2, powerText(-13)+" "+powerText(11)+" "+powerText(11)+" "+powerText(23)), false},
		{written(2, 2, powerText(23)+" 0 0 "+powerText(-23)), true},
	}
	for i, c := range cases {
		for _, before := range []int{0, 1, 2, 19} {
			if got := mustFactor(t, framed(c.m, before)); got != c.want {
				t.Errorf("the matrix %d in a frame of %d has a factor: %v", i, before, got)
			}
		}
	}
}

// TestFactorLimitAtEachIndex has one element of the factor whose square is too
// large, while it fits itself.
func TestFactorLimitAtEachIndex(t *testing.T) {
	for _, n := range []int{2, 3, 4, 10} {
		for i := range n {
			for k := range i {
				for _, size := range []int{11, 12} {
					d := replaced(repeatedRat(n, impl.RatFromInt(1)), k, vectorOf(powerText(-12))[0])
					lower := withCell(unitMatrix(n), i, k, vectorOf(powerText(size))[0])
					if got := mustFactor(t, composed(lower, d)); got != (size == 11) {
						t.Errorf("an element of %d limbs at %d, %d of %d has a factor: %v", size+1, i, k, n, got)
					}
				}
			}
		}
	}
}

// TestPositiveMatrices ties factors to determinants and forms: a matrix is
// positive definite if and only if the determinants of all its first rows and
// columns are positive, and then all its forms are. Otherwise, it has another.
func TestPositiveMatrices(t *testing.T) {
	random := rand.New(rand.NewSource(35))
	positive, other := 0, 0
	for k := range 600 {
		n := k%5 + 1
		m := mirrored(sparseMatrix(random, n, n))
		for i := range n {
			m.Cells[i*n+i] = impl.RatOf(random.Intn(12)-1, 2)
		}
		first := firstNotPositive(m)
		if got := impl.IsPositive(m); got != (first == n) {
			t.Errorf("IsPositive(%v) is %v", m, got)
		}
		if first == n {
			positive++
			mustHavePositiveForms(t, random, m)
			continue
		}
		other++
		v := directionOf(t, m, first)
		if got, ok := impl.QuadraticForm(m, v); !ok || impl.RatSign(got) > 0 {
			t.Errorf("QuadraticForm(%v, %v) is %v, %v", m, v, got, ok)
		}
	}
	if positive < 100 || other < 100 {
		t.Errorf("there are %d positive definite and %d other matrices", positive, other)
	}
}

// firstNotPositive is the least k for which the determinant of the first k + 1
// rows and columns is not positive, or the number of rows.
func firstNotPositive(m impl.Matrix) int {
	for k := range m.Rows {
		part, ok := impl.Submatrix(m, firstIndices(k+1))
		if determinant, fits := impl.Determinant(part); !ok || !fits || impl.RatSign(determinant) <= 0 {
			return k
		}
	}
	return m.Rows
}

// mustHavePositiveForms also checks that a form is the sum of the squares that
// the factor makes of it, and that all parts of the matrix have factors.
func mustHavePositiveForms(t *testing.T, random *rand.Rand, m impl.Matrix) {
	t.Helper()
	lower, d, _ := impl.Factor(m)
	for range 10 {
		v := sparseMatrix(random, m.Rows, 1).Cells
		sides, _ := impl.ApplyMatrix(impl.Transpose(lower), v)
		sum := impl.RatFromInt(0)
		for k, side := range sides {
			sum = impl.RatAdd(sum, impl.RatMul(d[k], impl.RatMul(side, side)))
		}
		isZero := sameVector(v, impl.ZeroVector(m.Rows))
		if got, ok := impl.QuadraticForm(m, v); !ok || !sameRat(got, sum) || isZero != (impl.RatSign(got) == 0) || impl.RatSign(got) < 0 {
			t.Errorf("QuadraticForm(%v, %v) is %v, %v, not %v", m, v, got, ok, sum)
		}
	}
	for _, list := range subsets(m.Rows) {
		if part, ok := impl.Submatrix(m, list); !ok || !impl.IsPositive(part) {
			t.Errorf("the part %v of %v is not positive definite", list, m)
		}
	}
}

// directionOf is the vector with 1 at k that the first k rows map to 0. Their
// first k columns are positive definite, so that they have an inverse.
func directionOf(t *testing.T, m impl.Matrix, k int) []impl.Rat {
	t.Helper()
	part, _ := impl.Submatrix(m, firstIndices(k))
	right := clonedVector(columnIn(m, k)[:k])
	for i, r := range right {
		right[i] = impl.RatNeg(r)
	}
	v, ok := impl.SolveSystem(part, right)
	if !ok {
		t.Errorf("SolveSystem(%v, %v) is refused", part, right)
	}
	v = append(v, impl.RatFromInt(1))
	return append(v, impl.ZeroVector(m.Rows-k-1)...)
}

// subsets are the ascending lists of indices of n elements.
func subsets(n int) [][]int {
	lists := [][]int{nil}
	for k := range n {
		for _, list := range slices.Clone(lists) {
			lists = append(lists, append(slices.Clone(list), k))
		}
	}
	return lists
}

// bigQuadratic is the quadratic form, computed without the program, or nil if a
// number is too large.
func bigQuadratic(m impl.Matrix, v []impl.Rat) *big.Rat {
	products := bigProducts(m, filled(len(v), 1, v))
	if slices.Contains(products, nil) {
		return nil
	}
	applied := make([]impl.Rat, len(v))
	for i, product := range products {
		applied[i] = ratOfBig(product)
	}
	sum, _ := innerProduct(v, applied)
	return sum
}

func mustForm(t *testing.T, m impl.Matrix, v []impl.Rat) {
	t.Helper()
	if got, ok := impl.QuadraticForm(m, v); !isNumberOf(got, ok, bigQuadratic(m, v)) {
		t.Errorf("QuadraticForm(%.300v, %.300v) is %v, %v", m, v, got, ok)
	}
}

func TestQuadraticFormExamples(t *testing.T) {
	cases := []struct {
		m       impl.Matrix
		v, want string
	}{
		{impl.Matrix{}, "", "0"},
		{written(1, 1, "-7/3"), "3", "-21"},
		{written(1, 1, "-7/3"), "0", "0"},
		{written(2, 2, "4 2 2 3"), "1 -1", "3"},
		{written(2, 2, "1 2 2 1"), "1 -1", "-2"},
		{written(2, 2, "0 1 -1 0"), "5 7", "0"},
		{written(2, 2, "1 2 3 4"), "1/2 -2", "45/4"},
		{written(3, 3, "1 2 3 4 5 6 7 8 9"), "1 0 2", "57"},
	}
	for i, c := range cases {
		got, ok := impl.QuadraticForm(c.m, vectorOf(strings.Fields(c.v)...))
		if !ok || impl.FormatRat(got) != c.want {
			t.Errorf("the form %d is %v, %v", i, got, ok)
		}
	}
}

// TestQuadraticForm has matrices that are not symmetric as well.
func TestQuadraticForm(t *testing.T) {
	random := rand.New(rand.NewSource(36))
	for n := range 25 {
		mustForm(t, smallMatrix(random, n, n), sparseMatrix(random, n, 1).Cells)
		mustForm(t, sparseMatrix(random, n, n), smallMatrix(random, n, 1).Cells)
		mustForm(t, unitMatrix(n), smallMatrix(random, n, 1).Cells)
		mustForm(t, uniform(n, n, impl.RatOf(-5, 3)), impl.ZeroVector(n))
	}
	for k := range 600 {
		n := k % 5
		mustForm(t, steepMatrix(random, n, n), steepMatrix(random, n, 1).Cells)
		mustForm(t, smallMatrix(random, n, n), smallMatrix(random, n, 1).Cells)
		mustForm(t, randomMatrix(random, n, n, k%9+1), randomVector(random, n, k%8+1))
	}
}

// TestQuadraticFormOrder is about sums that are too large in one order only, of
// the matrix with the vector and of the vector with that product.
func TestQuadraticFormOrder(t *testing.T) {
	for i, c := range sumsInOrder() {
		a, b := vectorOf(c.a...), vectorOf(c.b...)
		n := len(a)
		var want *big.Rat
		if c.want != "" {
			want, _ = new(big.Rat).SetString(c.want)
		}
		// Row k of the first matrix is a, and the others are 0.
		for k := range n {
			m := uniform(n, n, ratio(plus(), 1))
			copy(rowIn(m, k), clonedVector(a))
			mustForm(t, m, b)
		}
		// The product with the unit vector is a, with 1 and b after it.
		m := uniform(n+1, n+1, ratio(plus(), 1))
		for k, r := range a {
			m.Cells[k*(n+1)+n] = r
		}
		v := append(clonedVector(b), impl.RatFromInt(1))
		if got, ok := impl.QuadraticForm(m, v); !isNumberOf(got, ok, want) {
			t.Errorf("the form %d is %v, %v", i, got, ok)
		}
		mustForm(t, m, v)
	}
	half := written(2, 2, "0 0 "+powerText(12)+" 0")
	mustRefuseForm(t, half, vectorOf(powerText(6), powerText(6)))
	mustRefuseForm(t, half, vectorOf(powerText(12), powerText(-12)))
	if got, ok := impl.QuadraticForm(half, vectorOf(powerText(-12), powerText(12))); !ok || impl.FormatRat(got) != powerText(12) {
		t.Errorf("the form is %v, %v", got, ok)
	}
	if got, ok := impl.QuadraticForm(half, vectorOf(powerText(5), powerText(6))); !ok || impl.FormatRat(got) != powerText(23) {
		t.Errorf("the form is %v, %v", got, ok)
	}
}

// TestFormsThatDoNotFit has vectors of all other lengths, and matrices that are
// no squares with vectors as long as their rows or columns.
func TestFormsThatDoNotFit(t *testing.T) {
	for _, n := range []int{0, 1, 2, 3, 12, 23, 24} {
		for _, length := range lengthsAround() {
			if length != n {
				mustRefuseForm(t, unitMatrix(n), repeatedRat(length, impl.RatFromInt(0)))
				mustRefuseForm(t, uniform(n, n, impl.RatOf(1, 3)), repeatedRat(length, impl.RatFromInt(2)))
			}
		}
	}
	for _, bad := range notRats() {
		mustRefuseForm(t, impl.Matrix{}, []impl.Rat{bad})
		for _, n := range []int{1, 2, 5, 24} {
			for i := range n {
				mustRefuseForm(t, unitMatrix(n), replaced(impl.ZeroVector(n), i, bad))
				mustRefuseForm(t, uniform(n, n, ratio(plus(), 1)), replaced(impl.ZeroVector(n), i, bad))
			}
		}
	}
}

// TestDiagonalOf has matrices of all sizes, whose elements are all different.
func TestDiagonalOf(t *testing.T) {
	eachSize(func(rows, cols int) {
		m := numbered(rows, cols)
		if rows != cols {
			mustRefuseSquare(t, m)
			return
		}
		var want []impl.Rat
		sum := new(big.Rat)
		for i := range rows {
			want = append(want, m.Cells[i*(rows+1)])
			sum.Add(sum, toBigRat(m.Cells[i*(rows+1)]))
		}
		if got := impl.DiagonalOf(m); !sameVector(got, want) {
			t.Errorf("DiagonalOf(%.300v) is %v", m, got)
		}
		if got, ok := impl.TraceOf(m); !isNumberOf(got, ok, sum) {
			t.Errorf("TraceOf(%.300v) is %v, %v", m, got, ok)
		}
	})
	for text, want := range map[string]string{"-7/3": "-7/3", "0": "0", "4 2 2 3": "4 3", "1/2 5 5 -1/2": "1/2 -1/2", "1 2 3 4 5 6 7 8 9": "1 5 9"} {
		n := len(strings.Fields(want))
		if got := impl.DiagonalOf(written(n, n, text)); impl.FormatVector(got) != want {
			t.Errorf("the diagonal of %s is %v", text, got)
		}
	}
}

func TestTraceOf(t *testing.T) {
	cases := []struct {
		m    impl.Matrix
		want string
	}{
		{impl.Matrix{}, "0"},
		{written(1, 1, "-7/3"), "-7/3"},
		{written(1, 1, "0"), "0"},
		{written(2, 2, "4 2 2 3"), "7"},
		{written(2, 2, "1/2 5 5 -1/2"), "0"},
		{written(3, 3, "1/2 8 8 8 1/3 8 8 8 1/6"), "1"},
		{unitMatrix(24), "24"},
	}
	for i, c := range cases {
		if got, ok := impl.TraceOf(c.m); !ok || impl.FormatRat(got) != c.want {
			t.Errorf("the trace %d is %v, %v", i, got, ok)
		}
	}
	// The elements beside the diagonal do not matter, however large they are.
	for i, c := range sumsInOrder() {
		products := eachNumber(vectorOf(c.a...), vectorOf(c.b...), bigProduct)
		n := len(products)
		m := uniform(n, n, vectorOf(powerText(23))[0])
		for k, product := range products {
			m.Cells[k*(n+1)] = ratOfBig(product)
		}
		if got, ok := impl.TraceOf(m); ok != (c.want != "") || impl.FormatRat(got) != c.want {
			t.Errorf("the trace of the sum %d is %v, %v", i, got, ok)
		}
	}
}

// TestTraceLimit has a sum that is too large, or just not, at each index.
func TestTraceLimit(t *testing.T) {
	most := ratio(plus(greatest(24)...), 1)
	for _, n := range []int{1, 2, 3, 24} {
		for i := range n {
			m := withCell(uniform(n, n, ratio(plus(), 1)), i, i, most)
			if got, ok := impl.TraceOf(m); !ok || !sameRat(got, most) {
				t.Errorf("TraceOf(%.300v) is %v, %v", m, got, ok)
			}
			for k := range n {
				if k != i {
					mustRefuseTrace(t, withCell(m, k, k, impl.RatFromInt(1)))
					mustRefuseTrace(t, withCell(m, k, k, impl.RatOf(1, 2)))
				}
			}
			if got := impl.DiagonalOf(m); !sameVector(got, replaced(impl.ZeroVector(n), i, most)) {
				t.Errorf("DiagonalOf(%.300v) is %v", m, got)
			}
		}
	}
}

// TestTraceLaws ties traces to sums, transposes and products, whose order does
// not matter for them.
func TestTraceLaws(t *testing.T) {
	random := rand.New(rand.NewSource(37))
	for k := range 100 {
		n := k % 7
		a, b := smallMatrix(random, n, n), smallMatrix(random, n, n)
		traceA, _ := impl.TraceOf(a)
		traceB, _ := impl.TraceOf(b)
		sum, _ := impl.AddMatrices(a, b)
		if got, ok := impl.TraceOf(sum); !ok || !sameRat(got, impl.RatAdd(traceA, traceB)) {
			t.Errorf("the trace of the sum of %v and %v is %v, %v", a, b, got, ok)
		}
		if got, ok := impl.TraceOf(turned(a)); !ok || !sameRat(got, traceA) || !sameVector(impl.DiagonalOf(a), impl.DiagonalOf(turned(a))) {
			t.Errorf("the trace of the transpose of %v is %v, %v", a, got, ok)
		}
		left, _ := impl.Multiply(a, b)
		right, _ := impl.Multiply(b, a)
		trace, _ := impl.TraceOf(left)
		if got, ok := impl.TraceOf(right); !ok || !sameRat(got, trace) {
			t.Errorf("the traces of the products of %v and %v are %v and %v", a, b, trace, got)
		}
	}
}

// mustCut compares a part of a matrix with its elements.
func mustCut(t *testing.T, m impl.Matrix, list []int) {
	t.Helper()
	var cells []impl.Rat
	for _, i := range list {
		for _, k := range list {
			cells = append(cells, m.Cells[i*m.Cols+k])
		}
	}
	if got, ok := impl.Submatrix(m, list); !ok || !sameMatrix(got, filled(len(list), len(list), cells)) {
		t.Errorf("Submatrix(%.300v, %v) is %.300v, %v", m, list, got, ok)
	}
}

// TestSubmatrix has all ascending lists of few indices, and some of many.
func TestSubmatrix(t *testing.T) {
	for n := range 7 {
		for _, list := range subsets(n) {
			mustCut(t, numbered(n, n), list)
		}
	}
	for n := range 25 {
		m := numbered(n, n)
		mustCut(t, m, nil)
		mustCut(t, m, []int{})
		mustCut(t, m, firstIndices(n))
		for k := range n {
			mustCut(t, m, []int{k})
			mustCut(t, m, firstIndices(k))
			mustCut(t, m, slices.Delete(firstIndices(n), k, k+1))
		}
	}
}

// TestSubmatrixRefuses tries all lists of up to four numbers from two below the
// indices to two beyond them.
func TestSubmatrixRefuses(t *testing.T) {
	for n := range 5 {
		m := numbered(n, n)
		good := subsets(n)
		lists := [][]int{nil}
		for start := 0; start < len(lists); start++ {
			list := lists[start]
			if slices.ContainsFunc(good, func(other []int) bool { return slices.Equal(list, other) }) {
				mustCut(t, m, list)
			} else {
				mustRefuseSubmatrix(t, m, list)
			}
			for k := -2; k < n+2 && len(list) < 4; k++ {
				lists = append(lists, append(slices.Clone(list), k))
			}
		}
	}
	for _, n := range []int{0, 1, 2, 12, 23, 24} {
		m, all := numbered(n, n), firstIndices(n)
		for _, wrong := range []int{-1, -2, n, n + 1, 24, 576, math.MinInt, math.MinInt + 1, math.MaxInt, math.MaxInt - 1, 1 << 32, -1 << 32} {
			mustRefuseSubmatrix(t, m, []int{wrong})
			mustRefuseSubmatrix(t, m, append([]int{wrong}, all...))
			mustRefuseSubmatrix(t, m, append(slices.Clone(all), wrong))
			for i := range n {
				list := slices.Clone(all)
				list[i] = wrong
				mustRefuseSubmatrix(t, m, list)
				mustRefuseSubmatrix(t, m, []int{i, wrong})
				mustRefuseSubmatrix(t, m, []int{wrong, i})
			}
		}
		for i := range n {
			mustRefuseSubmatrix(t, m, slices.Insert(slices.Clone(all), i, i))
			for k := range i + 1 {
				mustRefuseSubmatrix(t, m, []int{i, k})
			}
		}
		mustRefuseSubmatrix(t, m, firstIndices(n+1))
		mustRefuseSubmatrix(t, m, firstIndices(1000))
		mustRefuseSubmatrix(t, m, make([]int, 1000))
	}
}

// TestSubmatrixLaws cuts parts of parts, and keeps matrices symmetric.
func TestSubmatrixLaws(t *testing.T) {
	random := rand.New(rand.NewSource(38))
	for range 20 {
		m := smallMatrix(random, 5, 5)
		for _, list := range subsets(5) {
			part, _ := impl.Submatrix(m, list)
			for _, inner := range subsets(len(list)) {
				both := make([]int, len(inner))
				for i, k := range inner {
					both[i] = list[k]
				}
				want, _ := impl.Submatrix(m, both)
				if got, ok := impl.Submatrix(part, inner); !ok || !sameMatrix(got, want) {
					t.Errorf("Submatrix(%v, %v) is %v, %v", part, inner, got, ok)
				}
			}
			if part, ok := impl.Submatrix(mirrored(m), list); !ok || !impl.IsSymmetric(part) {
				t.Errorf("the part %v of %v is not symmetric", list, mirrored(m))
			}
		}
	}
}

func TestSquaresOfMisfits(t *testing.T) {
	for _, m := range misfits() {
		mustRefuseSquare(t, m)
	}
}

// TestSquaresOfInvalidCells also has symmetric matrices, whose values that are
// not valid are in the diagonal or on both sides of it.
func TestSquaresOfInvalidCells(t *testing.T) {
	eachInvalidCell(func(m impl.Matrix) { mustRefuseSquare(t, m) })
	for n, bad := range notRats() {
		for _, size := range []int{1, 2, 3} {
			for i := range size {
				for k := range size {
					mustRefuseSquare(t, withCell(withCell(unitMatrix(size), i, k, bad), k, i, bad))
				}
			}
		}
		mustRefuseSquare(t, withCell(unitMatrix(24), 23-n%24, n*5%24, bad))
	}
}

// TestSquaresWithoutCells is about both ways to write the empty list.
func TestSquaresWithoutCells(t *testing.T) {
	for _, cells := range [][]impl.Rat{nil, {}, make([]impl.Rat, 0, 5)} {
		m := impl.Matrix{Cells: cells}
		lower, d, ok := impl.Factor(m)
		if !ok || !isZeroMatrix(lower) || len(d) > 0 || !impl.IsSymmetric(m) || !impl.IsPositive(m) {
			t.Errorf("the factor is %v, %v, %v", lower, d, ok)
		}
		for _, v := range [][]impl.Rat{nil, {}} {
			if got, ok := impl.QuadraticForm(m, v); !ok || !sameRat(got, ratio(plus(), 1)) {
				t.Errorf("the form is %v, %v", got, ok)
			}
		}
		if got, ok := impl.TraceOf(m); !ok || !sameRat(got, ratio(plus(), 1)) || len(impl.DiagonalOf(m)) > 0 {
			t.Errorf("the trace is %v, %v", got, ok)
		}
		for _, list := range [][]int{nil, {}, make([]int, 0, 5)} {
			if got, ok := impl.Submatrix(m, list); !ok || !isZeroMatrix(got) {
				t.Errorf("the part is %v, %v", got, ok)
			}
		}
		for _, size := range [][2]int{{0, 1}, {1, 0}, {0, 5}, {5, 0}, {0, 24}, {24, 0}} {
			mustRefuseSquare(t, filled(size[0], size[1], cells))
		}
	}
}

// symmetricResults are the cells of all matrices, and all vectors and
// fractions, that the functions return.
func symmetricResults(m impl.Matrix, v []impl.Rat, list []int) [][]impl.Rat {
	lower, d, _ := impl.Factor(m)
	form, _ := impl.QuadraticForm(m, v)
	trace, _ := impl.TraceOf(m)
	part, _ := impl.Submatrix(m, list)
	return [][]impl.Rat{lower.Cells, d, {form}, impl.DiagonalOf(m), {trace}, part.Cells}
}

// TestSymmetricMemory checks that neither the arguments, with the room behind
// them, nor the other results change when results are spoiled.
func TestSymmetricMemory(t *testing.T) {
	long := impl.FormatRat(ratio(plus(greatest(24)...), power(23)...))
	random := rand.New(rand.NewSource(39))
	matrices := []impl.Matrix{
		{}, filled(0, 3, nil), filled(3, 0, nil), written(1, 1, "-7/3"), written(1, 1, "1"), written(1, 1, "0"), written(1, 1, long), written(2, 2, "0 0 0 0"), written(2, 2, "1 0 0 1"),
		written(2, 2, "4 2 2 3"), written(2, 2, "1/2 -3 -3 1000000007"), written(2, 2, "1 2 2 4"), written(2, 2, "1 2 3 4"), written(2, 3, "1 2 3 4 5 6"), written(3, 3, "4 12 -16 12 37 -43 -16 -43 98"),
		unitMatrix(3), unitMatrix(24), uniform(3, 3, impl.RatFromInt(1)), uniform(1, 1, impl.Rat{}), written(2, 2, "1 2 3"), written(-1, -1, "1"), diagonal(long, "1", long),
		filled(2, 2, []impl.Rat{impl.RatFromInt(1), {}, ratio(plus(2), 4), impl.RatFromInt(1)}), uniform(25, 1, impl.RatFromInt(1)), mirrored(written(2, 2, powerText(12)+" 0 1 1")),
		composed(unitLower(smallMatrix(random, 12, 12)), positives(random, 12)),
	}
	for _, x := range matrices {
		n := max(x.Cols, 0)
		for _, z := range uniformLists(n) {
			for _, list := range [][]int{nil, {0}, {1, 2}, {0, 1}, {1, 0}, firstIndices(n)} {
				m, v, room := matrixWithRoom(x), vectorWithRoom(z), withRoom(list)
				mustBeApart(t, symmetricResults(m, v, room[:len(list)]), symmetricResults(clonedMatrix(x), clonedVector(z), slices.Clone(list)))
				impl.IsSymmetric(m)
				impl.IsPositive(m)
				if !roomIsKept(m.Cells, x.Cells) || !roomIsKept(v, z) || !slices.Equal(room, withRoom(list)) {
					t.Errorf("the arguments %v, %v and %v were changed to %v, %v and %v", x, z, list, m, v, room)
				}
			}
		}
	}
}

// TestSymmetricSameArgument gives a row of a matrix as the vector, and elements
// whose lists are one list.
func TestSymmetricSameArgument(t *testing.T) {
	for _, m := range append(sharedMatrices(), written(2, 2, "2 1 1 2")) {
		x := clonedMatrix(m)
		list := firstIndices(m.Rows)
		mustBeApart(t, symmetricResults(m, rowIn(m, m.Rows-1), list), symmetricResults(clonedMatrix(x), clonedVector(rowIn(x, x.Rows-1)), firstIndices(m.Rows)))
		impl.IsSymmetric(m)
		if !sameMatrix(m, x) || !slices.Equal(list, firstIndices(m.Rows)) {
			t.Errorf("the argument %v was changed to %v", x, m)
		}
	}
}
