package tests

import (
	"math"
	"math/big"
	"math/rand"
	"slices"
	"strings"
	"testing"

	"loop.example/g00830/impl"
)

// filled is a matrix with these cells, whether or not they fit.
func filled(rows, cols int, cells []impl.Rat) impl.Matrix {
	return impl.Matrix{Rows: rows, Cols: cols, Cells: cells}
}

// written is the matrix whose cells have these texts, separated by spaces.
func written(rows, cols int, text string) impl.Matrix {
	return filled(rows, cols, vectorOf(strings.Fields(text)...))
}

// clonedMatrix is the same matrix in other memory.
func clonedMatrix(m impl.Matrix) impl.Matrix { return filled(m.Rows, m.Cols, clonedVector(m.Cells)) }

// sameMatrix does not rely on EqualMatrices.
func sameMatrix(a, b impl.Matrix) bool {
	return a.Rows == b.Rows && a.Cols == b.Cols && sameVector(a.Cells, b.Cells)
}

func isZeroMatrix(m impl.Matrix) bool { return sameMatrix(m, impl.Matrix{}) }

// withCell is the matrix with another element in row i and column k.
func withCell(m impl.Matrix, i, k int, r impl.Rat) impl.Matrix {
	return filled(m.Rows, m.Cols, replaced(m.Cells, i*m.Cols+k, r))
}

// uniform is the matrix whose elements are all r.
func uniform(rows, cols int, r impl.Rat) impl.Matrix {
	return filled(rows, cols, repeatedRat(rows*cols, r))
}

// rowIn and columnIn do not rely on RowOf and Transpose.
func rowIn(m impl.Matrix, i int) []impl.Rat { return m.Cells[i*m.Cols : (i+1)*m.Cols] }

func columnIn(m impl.Matrix, k int) []impl.Rat {
	column := make([]impl.Rat, m.Rows)
	for i := range column {
		column[i] = m.Cells[i*m.Cols+k]
	}
	return column
}

// turned does not rely on Transpose.
func turned(m impl.Matrix) impl.Matrix {
	var cells []impl.Rat
	for k := range m.Cols {
		cells = append(cells, clonedVector(columnIn(m, k))...)
	}
	return filled(m.Cols, m.Rows, cells)
}

// randomMatrix has elements of up to size limbs.
func randomMatrix(random *rand.Rand, rows, cols, size int) impl.Matrix {
	return filled(rows, cols, randomVector(random, rows*cols, size))
}

// smallMatrix has elements of which many products and sums fit.
func smallMatrix(random *rand.Rand, rows, cols int) impl.Matrix {
	cells := make([]impl.Rat, rows*cols)
	for i := range cells {
		cells[i] = impl.RatOf(random.Intn(39)-19, random.Intn(6)+1)
	}
	return filled(rows, cols, cells)
}

// eachSize calls try with all numbers of rows and columns.
func eachSize(try func(rows, cols int)) {
	for rows := range impl.MaxLength + 1 {
		for cols := range impl.MaxLength + 1 {
			try(rows, cols)
		}
	}
}

// wrongSizes are pairs of which one is no number of rows or columns. The
// products of some are numbers that fit, or wrap around to them.
func wrongSizes() [][2]int {
	sizes := [][2]int{{-1, -1}, {-2, -3}, {-24, -1}, {-4, 2}, {25, 25}, {5, 25}, {1 << 32, 1 << 32}, {1 << 62, 4}, {4, 1 << 62}, {math.MaxInt, math.MaxInt}, {math.MinInt, math.MinInt}}
	for _, wrong := range []int{-1, -2, -24, -25, 25, 26, 48, 1000, math.MinInt, math.MaxInt} {
		for _, n := range []int{0, 1, 2, 23, 24} {
			sizes = append(sizes, [2]int{wrong, n}, [2]int{n, wrong})
		}
	}
	return sizes
}

// lengthsFor are the lengths of the lists that might be taken for the cells of
// a matrix with a wrong number of rows or columns.
func lengthsFor(rows, cols int) []int {
	lengths := []int{0, 1, 2, 24, 576}
	if n := rows * cols; n > 0 && n < 2000 {
		lengths = append(lengths, n)
	}
	return lengths
}

// misfits are matrices of valid elements, but with wrong sizes or lengths.
func misfits() []impl.Matrix {
	one := impl.RatFromInt(1)
	var list []impl.Matrix
	for _, size := range wrongSizes() {
		for _, n := range lengthsFor(size[0], size[1]) {
			list = append(list, filled(size[0], size[1], repeatedRat(n, one)))
		}
	}
	for _, size := range [][2]int{{0, 0}, {0, 1}, {1, 0}, {0, 24}, {24, 0}, {1, 1}, {2, 3}, {3, 3}, {1, 24}, {24, 1}, {24, 24}} {
		rows, cols := size[0], size[1]
		for _, n := range []int{0, 1, rows, cols, rows + cols, rows*cols - 1, rows*cols + 1, 2 * rows * cols, 1000} {
			if n >= 0 && n != rows*cols {
				list = append(list, filled(rows, cols, repeatedRat(n, one)))
			}
		}
	}
	return list
}

// isMatrixOf tells whether a result is the matrix of these numbers and true,
// or the zero value and false if one of them is nil, or too large.
func isMatrixOf(got impl.Matrix, ok bool, rows, cols int, want []*big.Rat) bool {
	for _, r := range want {
		if r == nil || !fits(r) {
			return isZeroMatrix(got) && !ok
		}
	}
	return ok && got.Rows == rows && got.Cols == cols && slices.EqualFunc(got.Cells, want, isRat)
}

// isVectorOrNone is isVectorOf for numbers of which one may be nil, because it
// is too large.
func isVectorOrNone(got []impl.Rat, ok bool, want []*big.Rat) bool {
	if slices.Contains(want, nil) {
		return got == nil && !ok
	}
	return isVectorOf(got, ok, want)
}

// bigProducts are the elements of the product, computed without the program,
// with nil for those of which a number is too large.
func bigProducts(a, b impl.Matrix) []*big.Rat {
	var list []*big.Rat
	for i := range a.Rows {
		for k := range b.Cols {
			// It is nil for a number that is too large.
			sum, _ := innerProduct(rowIn(a, i), columnIn(b, k))
			list = append(list, sum)
		}
	}
	return list
}

// mustRefuseSum and the two functions below check that a result is refused.
func mustRefuseSum(t *testing.T, a, b impl.Matrix) {
	t.Helper()
	if got, ok := impl.AddMatrices(a, b); ok || !isZeroMatrix(got) {
		t.Errorf("AddMatrices(%.200v, %.200v) is %v, %v", a, b, got, ok)
	}
}

func mustRefuseProduct(t *testing.T, a, b impl.Matrix) {
	t.Helper()
	if got, ok := impl.Multiply(a, b); ok || !isZeroMatrix(got) {
		t.Errorf("Multiply(%.200v, %.200v) is %v, %v", a, b, got, ok)
	}
}

func mustRefuseApply(t *testing.T, m impl.Matrix, v []impl.Rat) {
	t.Helper()
	if got, ok := impl.ApplyMatrix(m, v); ok || got != nil {
		t.Errorf("ApplyMatrix(%.200v, %.200v) is %v, %v", m, v, got, ok)
	}
}

// mustRefuseMatrix checks that all functions refuse a matrix that is not
// valid, beside other arguments that fit it.
func mustRefuseMatrix(t *testing.T, m impl.Matrix) {
	t.Helper()
	if impl.MatrixOk(m) {
		t.Errorf("MatrixOk(%.200v) is true", m)
	}
	if got := impl.Transpose(m); !isZeroMatrix(got) {
		t.Errorf("Transpose(%.200v) is %v", m, got)
	}
	for _, i := range []int{0, 1, m.Rows - 1, m.Rows, -1} {
		if got := impl.RowOf(m, i); got != nil {
			t.Errorf("RowOf(%.200v, %d) is %v", m, i, got)
		}
		for _, k := range []int{0, 1, m.Cols - 1, m.Cols, -1} {
			if got := impl.CellAt(m, i, k); !isZeroRat(got) {
				t.Errorf("CellAt(%.200v, %d, %d) is %v", m, i, k, got)
			}
		}
	}
	mustRefuseSum(t, m, m)
	mustRefuseProduct(t, m, m)
	if m.Rows >= 0 && m.Rows <= 30 && m.Cols >= 0 && m.Cols <= 30 {
		zero := impl.RatFromInt(0)
		good := uniform(m.Rows, m.Cols, zero)
		mustRefuseSum(t, m, good)
		mustRefuseSum(t, good, m)
		for _, n := range []int{0, 1, m.Rows, m.Cols} {
			mustRefuseProduct(t, m, uniform(m.Cols, n, zero))
			mustRefuseProduct(t, uniform(n, m.Rows, zero), m)
		}
		mustRefuseApply(t, m, repeatedRat(m.Cols, zero))
	}
	mustRefuseApply(t, m, nil)
	mustRefuseApply(t, m, impl.ZeroVector(24))
}

func TestMatrixOk(t *testing.T) {
	eachSize(func(rows, cols int) {
		if !impl.MatrixOk(uniform(rows, cols, impl.RatOf(-2, 3))) {
			t.Errorf("MatrixOk of %d rows and %d columns is false", rows, cols)
		}
	})
	for _, m := range []impl.Matrix{{}, {Cells: []impl.Rat{}}, {Rows: 24}, {Cols: 24, Cells: []impl.Rat{}}} {
		if !impl.MatrixOk(m) {
			t.Errorf("MatrixOk(%v) is false", m)
		}
	}
	edges := edgeRats()
	for i := 0; i+24 <= len(edges); i += 5 {
		if m := filled(4, 6, edges[i:i+24]); !impl.MatrixOk(m) {
			t.Errorf("MatrixOk(%v) is false", m)
		}
	}
}

func TestMatrixWrongSizes(t *testing.T) {
	for _, m := range misfits() {
		mustRefuseMatrix(t, m)
	}
}

// eachInvalidCell calls try with small matrices that have each value that is not
// valid at each index.
func eachInvalidCell(try func(m impl.Matrix)) {
	for n, bad := range notRats() {
		for _, size := range [][2]int{{1, 1}, {2, 3}, {3, 2}, {2, 2}} {
			good := uniform(size[0], size[1], impl.RatFromInt(n%3))
			for i := range size[0] {
				for k := range size[1] {
					try(withCell(good, i, k, bad))
				}
			}
		}
		try(uniform(3, 3, bad))
	}
}

func TestMatrixInvalidCells(t *testing.T) {
	eachInvalidCell(func(m impl.Matrix) { mustRefuseMatrix(t, m) })
	for _, size := range [][2]int{{1, 24}, {24, 1}, {24, 24}} {
		good := uniform(size[0], size[1], impl.RatOf(1, 2))
		for i := range good.Cells {
			kept := good.Cells[i]
			good.Cells[i] = impl.Rat{}
			if impl.MatrixOk(good) {
				t.Errorf("MatrixOk of %v is true with the zero value at the index %d", size, i)
			}
			good.Cells[i] = kept
		}
		mustRefuseMatrix(t, withCell(good, size[0]-1, size[1]-1, impl.Rat{}))
	}
}

func TestMatrixOf(t *testing.T) {
	numbers := []int{0, 1, -1, 7, -12, impl.Base - 1, impl.Base, -impl.Base, math.MaxInt, math.MinInt, math.MinInt + 1, 1 << 40}
	eachSize(func(rows, cols int) {
		list := make([]int, rows*cols)
		want := make([]*big.Rat, rows*cols)
		for i := range list {
			list[i] = numbers[i%len(numbers)] + i%3
			want[i] = new(big.Rat).SetInt64(int64(list[i]))
		}
		kept := slices.Clone(list)
		if got := impl.MatrixOf(rows, cols, list); !isMatrixOf(got, true, rows, cols, want) {
			t.Errorf("MatrixOf(%d, %d, %v) is %v", rows, cols, list, got)
		}
		if !slices.Equal(list, kept) {
			t.Errorf("MatrixOf(%d, %d, %v) changed its list to %v", rows, cols, kept, list)
		}
	})
	if got := impl.MatrixOf(2, 3, []int{1, -2, 3, 0, 5, -60}); !sameMatrix(got, written(2, 3, "1 -2 3 0 5 -60")) {
		t.Errorf("the matrix is %v", got)
	}
}

func TestMatrixOfRefuses(t *testing.T) {
	for _, m := range misfits() {
		list := make([]int, len(m.Cells))
		if got := impl.MatrixOf(m.Rows, m.Cols, list); !isZeroMatrix(got) {
			t.Errorf("MatrixOf(%d, %d) of %d numbers is %v", m.Rows, m.Cols, len(list), got)
		}
	}
	for _, list := range [][]int{nil, {}} {
		if got := impl.MatrixOf(1, 1, list); !isZeroMatrix(got) {
			t.Errorf("MatrixOf(1, 1, %v) is %v", list, got)
		}
		if got := impl.MatrixOf(0, 7, list); !sameMatrix(got, filled(0, 7, nil)) {
			t.Errorf("MatrixOf(0, 7, %v) is %v", list, got)
		}
		if got := impl.MatrixOf(24, 0, list); !sameMatrix(got, filled(24, 0, nil)) {
			t.Errorf("MatrixOf(24, 0, %v) is %v", list, got)
		}
	}
}

func TestIdentityMatrix(t *testing.T) {
	for n := range 25 {
		want := uniform(n, n, ratio(plus(), 1))
		for i := range n {
			want.Cells[i*n+i] = ratio(plus(1), 1)
		}
		if got := impl.IdentityMatrix(n); !sameMatrix(got, want) {
			t.Errorf("IdentityMatrix(%d) is %v", n, got)
		}
	}
	for _, n := range []int{-1, -2, -24, 25, 26, 48, 1000, 1 << 32, math.MinInt, math.MaxInt} {
		if got := impl.IdentityMatrix(n); !isZeroMatrix(got) {
			t.Errorf("IdentityMatrix(%d) is %v", n, got)
		}
	}
}

// numbered has a different number in each cell.
func numbered(rows, cols int) impl.Matrix {
	m := filled(rows, cols, nil)
	for i := range rows * cols {
		m.Cells = append(m.Cells, impl.RatOf(2*i-301, 7))
	}
	return m
}

func TestCellAtAndRowOf(t *testing.T) {
	eachSize(func(rows, cols int) {
		m := numbered(rows, cols)
		for i := range rows {
			if got := impl.RowOf(m, i); !sameVector(got, rowIn(m, i)) {
				t.Errorf("RowOf the row %d of %d rows and %d columns is %v", i, rows, cols, got)
			}
			// All cells of all sizes would take too long.
			for k := i % 4; k < cols; k += 1 + rows*cols/100 {
				if got := impl.CellAt(m, i, k); !sameRat(got, m.Cells[i*cols+k]) {
					t.Errorf("CellAt the row %d and the column %d of %d rows and %d columns is %v", i, k, rows, cols, got)
				}
			}
		}
	})
}

func TestCellAtAndRowOfOutside(t *testing.T) {
	for _, size := range [][2]int{{0, 0}, {0, 3}, {3, 0}, {1, 1}, {2, 3}, {3, 2}, {1, 24}, {24, 1}, {24, 24}} {
		rows, cols := size[0], size[1]
		m := numbered(rows, cols)
		for _, i := range []int{-1, -2, -rows, rows, rows + 1, 1000, math.MinInt, math.MaxInt} {
			if got := impl.RowOf(m, i); got != nil {
				t.Errorf("RowOf the row %d of %d is %v", i, rows, got)
			}
			for _, k := range []int{0, 1, cols - 1, cols, -1} {
				if got := impl.CellAt(m, i, k); !isZeroRat(got) {
					t.Errorf("CellAt the row %d and the column %d of %d rows and %d columns is %v", i, k, rows, cols, got)
				}
			}
		}
		// Some of these columns would be inside if rows were not cut.
		for _, k := range []int{-1, -2, -cols - 1, cols, cols + 1, 2 * cols, 1000, math.MinInt, math.MaxInt} {
			for i := range rows {
				if got := impl.CellAt(m, i, k); !isZeroRat(got) {
					t.Errorf("CellAt the row %d and the column %d of %d rows and %d columns is %v", i, k, rows, cols, got)
				}
			}
		}
	}
}

func TestTranspose(t *testing.T) {
	eachSize(func(rows, cols int) {
		m := numbered(rows, cols)
		if got := impl.Transpose(m); !sameMatrix(got, turned(m)) {
			t.Errorf("Transpose of %d rows and %d columns is %v", rows, cols, got)
		}
	})
	if got := impl.Transpose(written(2, 3, "1 -2 3 0 1/5 -6")); !sameMatrix(got, written(3, 2, "1 0 -2 1/5 3 -6")) {
		t.Errorf("the transpose is %v", got)
	}
	random := rand.New(rand.NewSource(16))
	for k := range 40 {
		m := randomMatrix(random, k%7, k*3%8, k%impl.MaxRat+1)
		if got := impl.Transpose(m); !sameMatrix(got, turned(m)) {
			t.Errorf("Transpose(%v) is %v", m, got)
		}
	}
}

func TestMatrixExamples(t *testing.T) {
	a, b := written(2, 3, "1 -1/2 0 2/3 4 -5"), written(2, 3, "-1 1/3 7 1/3 -4 5/2")
	if got, ok := impl.AddMatrices(a, b); !ok || !sameMatrix(got, written(2, 3, "0 -1/6 7 1 0 -5/2")) {
		t.Errorf("the sum is %v, %v", got, ok)
	}
	c := written(3, 2, "6 0 2 1/4 -1 3")
	if got, ok := impl.Multiply(a, c); !ok || !sameMatrix(got, written(2, 2, "5 -1/8 17 -14")) {
		t.Errorf("the product is %v, %v", got, ok)
	}
	if got, ok := impl.Multiply(c, a); !ok || !sameMatrix(got, written(3, 3, "6 -3 0 13/6 0 -5/4 1 25/2 -15")) {
		t.Errorf("the product in the other order is %v, %v", got, ok)
	}
	if got, ok := impl.ApplyMatrix(a, vectorOf("6", "2", "-1")); !ok || !sameVector(got, vectorOf("5", "17")) {
		t.Errorf("the product with a vector is %v, %v", got, ok)
	}
}

func TestAddMatrices(t *testing.T) {
	try := func(a, b impl.Matrix) {
		want := eachNumber(a.Cells, b.Cells, bigSum)
		if got, ok := impl.AddMatrices(a, b); !isMatrixOf(got, ok, a.Rows, a.Cols, want) {
			t.Errorf("AddMatrices(%v, %v) is %v, %v", a, b, got, ok)
		}
	}
	random := rand.New(rand.NewSource(17))
	eachSize(func(rows, cols int) { try(smallMatrix(random, rows, cols), smallMatrix(random, rows, cols)) })
	for k := range 300 {
		rows, cols, size := k%6+1, k*5%7+1, k%3+1
		a, b := randomMatrix(random, rows, cols, size), randomMatrix(random, rows, cols, size)
		try(a, b)
		try(a, a)
		i, j, long := k%rows, k*11%cols, randomRat(random, impl.MaxRat)
		try(withCell(a, i, j, long), b)
		try(a, withCell(b, i, j, long))
		try(withCell(a, i, j, long), withCell(b, i, j, lowest(randomBigInt(random, impl.MaxRat), long.Den)))
	}
}

func TestMultiply(t *testing.T) {
	try := func(a, b impl.Matrix) {
		if got, ok := impl.Multiply(a, b); !isMatrixOf(got, ok, a.Rows, b.Cols, bigProducts(a, b)) {
			t.Errorf("Multiply(%v, %v) is %v, %v", a, b, got, ok)
		}
	}
	sizes := []int{0, 1, 2, 3, 5, 23, 24}
	random := rand.New(rand.NewSource(18))
	for _, rows := range sizes {
		for _, n := range sizes {
			for _, cols := range sizes {
				try(smallMatrix(random, rows, n), smallMatrix(random, n, cols))
			}
		}
	}
	for k := range 300 {
		rows, n, cols, size := k%4+1, k*5%6+1, k*7%5+1, k%3+1
		a, b := randomMatrix(random, rows, n, size), randomMatrix(random, n, cols, size)
		try(a, b)
		long := randomRat(random, impl.MaxRat)
		try(withCell(a, k%rows, k%n, long), b)
		try(a, withCell(b, k*3%n, k%cols, long))
	}
}

func TestApplyMatrix(t *testing.T) {
	try := func(m impl.Matrix, v []impl.Rat) {
		got, ok := impl.ApplyMatrix(m, v)
		// A vector is a matrix with one column.
		if !isVectorOrNone(got, ok, bigProducts(m, filled(len(v), 1, v))) {
			t.Errorf("ApplyMatrix(%v, %v) is %v, %v", m, v, got, ok)
		}
	}
	random := rand.New(rand.NewSource(19))
	eachSize(func(rows, cols int) { try(smallMatrix(random, rows, cols), smallMatrix(random, cols, 1).Cells) })
	for k := range 300 {
		rows, cols, size := k%5+1, k*5%6+1, k%3+1
		m, v := randomMatrix(random, rows, cols, size), randomVector(random, cols, size)
		try(m, v)
		long := randomRat(random, impl.MaxRat)
		try(withCell(m, k%rows, k%cols, long), v)
		try(m, replaced(v, k%cols, long))
	}
}

// TestMatricesWithoutCells is about both ways to write the empty list.
func TestMatricesWithoutCells(t *testing.T) {
	for _, cells := range [][]impl.Rat{nil, {}, make([]impl.Rat, 0, 5)} {
		for _, size := range [][2]int{{0, 0}, {0, 1}, {1, 0}, {0, 5}, {5, 0}, {0, 24}, {24, 0}} {
			rows, cols := size[0], size[1]
			m := filled(rows, cols, cells)
			if got := impl.Transpose(m); !sameMatrix(got, filled(cols, rows, nil)) {
				t.Errorf("Transpose(%v) is %v", m, got)
			}
			if got, ok := impl.AddMatrices(m, filled(rows, cols, nil)); !ok || !sameMatrix(got, m) {
				t.Errorf("the sum of %v is %v, %v", m, got, ok)
			}
			if got, ok := impl.ApplyMatrix(m, repeatedRat(cols, impl.RatOf(7, 2))); !ok || !sameVector(got, repeatedRat(rows, ratio(plus(), 1))) {
				t.Errorf("ApplyMatrix(%v) is %v, %v", m, got, ok)
			}
			for _, n := range []int{0, 1, 3, 24} {
				if got, ok := impl.Multiply(m, uniform(cols, n, impl.RatOf(7, 2))); !ok || !sameMatrix(got, uniform(rows, n, ratio(plus(), 1))) {
					t.Errorf("the product of %v with %d columns is %v, %v", m, n, got, ok)
				}
				if got, ok := impl.Multiply(uniform(n, rows, impl.RatOf(7, 2)), m); !ok || !sameMatrix(got, uniform(n, cols, ratio(plus(), 1))) {
					t.Errorf("the product of %d rows with %v is %v, %v", n, m, got, ok)
				}
			}
		}
	}
}

// TestMatricesThatDoNotFit has valid arguments of all sizes that do not fit
// each other.
func TestMatricesThatDoNotFit(t *testing.T) {
	sizes := []int{0, 1, 2, 3, 6, 24}
	one := impl.RatFromInt(1)
	for _, rows := range sizes {
		for _, cols := range sizes {
			a := uniform(rows, cols, one)
			for _, n := range sizes {
				for _, m := range sizes {
					if rows != n || cols != m {
						mustRefuseSum(t, a, uniform(n, m, one))
					}
					if cols != n {
						mustRefuseProduct(t, a, uniform(n, m, one))
					}
				}
			}
			for _, n := range lengthsAround() {
				if n != cols {
					mustRefuseApply(t, a, repeatedRat(n, one))
				}
			}
		}
	}
}

// TestApplyMatrixToInvalid has vectors that are not valid beside matrices
// whose zeros, or missing rows, must not hide that.
func TestApplyMatrixToInvalid(t *testing.T) {
	for _, bad := range notRats() {
		for _, n := range []int{1, 2, 5, 24} {
			good := repeatedRat(n, impl.RatOf(-7, 2))
			for i := range n {
				v := replaced(good, i, bad)
				mustRefuseApply(t, uniform(0, n, impl.Rat{}), v)
				mustRefuseApply(t, uniform(1, n, impl.RatFromInt(0)), v)
				mustRefuseApply(t, uniform(3, n, impl.RatOf(2, 3)), v)
			}
		}
		mustRefuseApply(t, impl.Matrix{}, []impl.Rat{bad})
		mustRefuseApply(t, filled(3, 0, nil), []impl.Rat{bad})
	}
}

// TestSumOfMatricesLimit puts a number that is too large at each index.
func TestSumOfMatricesLimit(t *testing.T) {
	most, least := ratio(plus(greatest(24)...), 1), ratio(minus(greatest(24)...), 1)
	for _, size := range [][2]int{{1, 1}, {2, 3}, {3, 2}, {1, 24}, {24, 1}} {
		ones, zeros := uniform(size[0], size[1], impl.RatFromInt(1)), uniform(size[0], size[1], impl.RatFromInt(0))
		for i := range size[0] {
			for k := range size[1] {
				mustRefuseSum(t, withCell(ones, i, k, most), ones)
				mustRefuseSum(t, withCell(ones, i, k, least), withCell(zeros, i, k, impl.RatFromInt(-1)))
				mustRefuseSum(t, ones, withCell(zeros, i, k, ratio(plus(1), greatest(24)...)))
				if got, ok := impl.AddMatrices(withCell(zeros, i, k, least), withCell(ones, i, k, impl.RatFromInt(0))); !ok || !sameMatrix(got, withCell(ones, i, k, least)) {
					t.Errorf("a sum in the row %d and the column %d fits, but is %v, %v", i, k, got, ok)
				}
			}
		}
	}
}

// TestProductOfMatricesLimit puts a number that is too large at each index of
// a product, in the term of each index.
func TestProductOfMatricesLimit(t *testing.T) {
	most, least := ratio(plus(greatest(24)...), 1), ratio(minus(greatest(24)...), 1)
	zero, two := impl.RatFromInt(0), impl.RatFromInt(2)
	for _, size := range [][3]int{{1, 1, 1}, {2, 3, 4}, {4, 2, 3}, {1, 24, 1}, {24, 1, 2}, {1, 2, 24}} {
		a, b := uniform(size[0], size[1], zero), uniform(size[1], size[2], zero)
		for i := range size[0] {
			for j := range size[1] {
				for k := range size[2] {
					mustRefuseProduct(t, withCell(a, i, j, most), withCell(b, j, k, two))
					mustRefuseProduct(t, withCell(a, i, j, impl.RatOf(1, 2)), withCell(b, j, k, ratio(minus(1), greatest(24)...)))
					mustRefuseApply(t, withCell(a, i, j, least), replaced(impl.ZeroVector(size[1]), j, two))
					want := withCell(uniform(size[0], size[2], zero), i, k, least)
					if got, ok := impl.Multiply(withCell(a, i, j, most), withCell(b, j, k, impl.RatFromInt(-1))); !ok || !sameMatrix(got, want) {
						t.Errorf("the product in the row %d and the column %d fits, but is %v, %v", i, k, got, ok)
					}
				}
			}
		}
	}
}

// TestProductOfMatricesOrder is about sums that are too large in one order
// only: as the only element of a product, and as one of several.
func TestProductOfMatricesOrder(t *testing.T) {
	for i, c := range sumsInOrder() {
		a, b := vectorOf(c.a...), vectorOf(c.b...)
		n := len(a)
		want := []*big.Rat{nil}
		if c.want != "" {
			want[0], _ = new(big.Rat).SetString(c.want)
		}
		if got, ok := impl.Multiply(filled(1, n, a), filled(n, 1, b)); !isMatrixOf(got, ok, 1, 1, want) {
			t.Errorf("the product %d is %v, %v", i, got, ok)
		}
		if got, ok := impl.ApplyMatrix(filled(1, n, a), b); !isVectorOrNone(got, ok, want) {
			t.Errorf("the product %d with a vector is %v, %v", i, got, ok)
		}
		zeros := impl.ZeroVector(n)
		rows := filled(3, n, slices.Concat(zeros, a, zeros))
		columns := turned(filled(2, n, slices.Concat(zeros, b)))
		zero := new(big.Rat)
		if got, ok := impl.Multiply(rows, columns); !isMatrixOf(got, ok, 3, 2, []*big.Rat{zero, zero, zero, want[0], zero, zero}) {
			t.Errorf("the product %d among others is %v, %v", i, got, ok)
		}
		if got, ok := impl.ApplyMatrix(rows, b); !isVectorOrNone(got, ok, []*big.Rat{zero, want[0], zero}) {
			t.Errorf("the product %d with a vector among others is %v, %v", i, got, ok)
		}
	}
}

// TestMatrixLaws ties sums, products and transposes to each other: products
// are associative and distributive, and transposition reverses them.
func TestMatrixLaws(t *testing.T) {
	random := rand.New(rand.NewSource(20))
	for k := range 120 {
		p, q, r, s := k%13, k*5%11, k*7%12, k*11%9
		if k%40 == 0 {
			p, q, r, s = 24, 23, 24, 7
		}
		a, b, c, d := smallMatrix(random, p, q), smallMatrix(random, q, r), smallMatrix(random, r, s), smallMatrix(random, q, r)
		ab, _ := impl.Multiply(a, b)
		bc, _ := impl.Multiply(b, c)
		left, leftOk := impl.Multiply(ab, c)
		right, rightOk := impl.Multiply(a, bc)
		if !leftOk || !rightOk || !sameMatrix(left, right) || left.Rows != p || left.Cols != s {
			t.Errorf("the products of %v, %v and %v are %v and %v", a, b, c, left, right)
		}
		reversed, ok := impl.Multiply(impl.Transpose(b), impl.Transpose(a))
		if !ok || !sameMatrix(impl.Transpose(ab), reversed) || !sameMatrix(impl.Transpose(impl.Transpose(a)), a) {
			t.Errorf("the product of the transposes of %v and %v is %v", b, a, reversed)
		}
		sum, _ := impl.AddMatrices(b, d)
		swapped, _ := impl.AddMatrices(d, b)
		whole, _ := impl.Multiply(a, sum)
		ad, _ := impl.Multiply(a, d)
		parts, ok := impl.AddMatrices(ab, ad)
		if !ok || !sameMatrix(whole, parts) || !sameMatrix(sum, swapped) {
			t.Errorf("the products of %v with %v and %v are %v and %v", a, b, d, whole, parts)
		}
		before, _ := impl.Multiply(impl.IdentityMatrix(p), a)
		after, _ := impl.Multiply(a, impl.IdentityMatrix(q))
		if !sameMatrix(before, a) || !sameMatrix(after, a) {
			t.Errorf("the products of %v with the identity are %v and %v", a, before, after)
		}
		v := smallMatrix(random, r, 1).Cells
		inner, _ := impl.ApplyMatrix(b, v)
		twice, _ := impl.ApplyMatrix(a, inner)
		if once, ok := impl.ApplyMatrix(ab, v); !ok || !sameVector(once, twice) {
			t.Errorf("the products of %v, %v and %v are %v and %v", a, b, v, once, twice)
		}
	}
}

// TestEqualMatrices is about fields and elements, so also about matrices that
// are not valid.
func TestEqualMatrices(t *testing.T) {
	cells := "1 2 3 4 5 6"
	list := []impl.Matrix{
		{}, {Rows: 1}, {Cols: 1}, {Rows: 5}, {Cols: 5}, {Rows: 24}, {Rows: -1}, {Rows: -1, Cols: -1}, {Rows: 25}, {Cols: 25}, {Rows: math.MinInt}, {Cols: math.MaxInt},
		written(2, 3, cells), written(3, 2, cells), written(1, 6, cells), written(6, 1, cells), written(0, 0, cells), written(2, 2, cells), written(-2, -3, cells), written(2, 3, "1 2 3 4 5"),
		written(2, 3, cells+" 7"), written(2, 3, "6 5 4 3 2 1"), written(2, 3, "-1 2 3 4 5 6"), written(3, 2, "1 4 2 5 3 6"), written(2, 3, "1 2 3 4 5 1/6"),
		uniform(1, 1, impl.Rat{}), uniform(2, 2, impl.Rat{}), uniform(1, 1, ratio(plus(2), 4)), uniform(1, 1, ratio(plus(1), 2)), uniform(1, 1, ratio(minus(), 1)), uniform(1, 1, ratio(plus(), 1)),
		uniform(24, 24, impl.RatOf(1, 3)), uniform(24, 23, impl.RatOf(1, 3)), uniform(23, 24, impl.RatOf(1, 3)), uniform(25, 25, impl.RatOf(1, 3)), uniform(100, 100, impl.RatOf(1, 3)),
	}
	for i, a := range list {
		if !impl.EqualMatrices(a, a) || !impl.EqualMatrices(a, clonedMatrix(a)) {
			t.Errorf("EqualMatrices of the matrix %d and itself is false", i)
		}
		for k, b := range list {
			if got := impl.EqualMatrices(a, b); got != (i == k) {
				t.Errorf("EqualMatrices of the matrices %d and %d is %v", i, k, got)
			}
		}
	}
	if !impl.EqualMatrices(filled(0, 3, nil), filled(0, 3, []impl.Rat{})) {
		t.Error("EqualMatrices of nil and empty cells is false")
	}
	m := numbered(24, 24)
	for i := range m.Cells {
		other := clonedMatrix(m)
		other.Cells[i] = impl.RatFromInt(1000)
		if impl.EqualMatrices(m, other) || impl.EqualMatrices(other, m) {
			t.Errorf("EqualMatrices is true with a difference at the index %d", i)
		}
	}
}

// matrixWithRoom is the same matrix with room behind its lists, which must not
// change.
func matrixWithRoom(m impl.Matrix) impl.Matrix {
	return filled(m.Rows, m.Cols, vectorWithRoom(m.Cells))
}

// matrixResults are the cells of all matrices, and all vectors and fractions,
// that the functions return.
func matrixResults(a, b impl.Matrix, v []impl.Rat) [][]impl.Rat {
	sum, _ := impl.AddMatrices(a, b)
	product, _ := impl.Multiply(a, b)
	turnedProduct, _ := impl.Multiply(a, impl.Transpose(b))
	applied, _ := impl.ApplyMatrix(a, v)
	return [][]impl.Rat{
		sum.Cells, product.Cells, turnedProduct.Cells, applied, impl.Transpose(a).Cells,
		impl.RowOf(a, 0), impl.RowOf(a, a.Rows-1), {impl.CellAt(a, 0, 0)}, {impl.CellAt(b, b.Rows-1, b.Cols-1)},
		impl.IdentityMatrix(a.Rows).Cells,
	}
}

// TestMatrixMemory checks that neither the arguments, with the room behind
// them, nor the other results change when results are spoiled.
func TestMatrixMemory(t *testing.T) {
	long := impl.FormatRat(ratio(minus(greatest(24)...), power(23)...))
	matrices := []impl.Matrix{
		{}, filled(0, 3, nil), filled(3, 0, nil), written(1, 1, "-7/3"), written(2, 2, "0 0 0 0"), written(2, 2, "1 0 0 1"), written(2, 2, "1/2 -12/5 1000000007/3 0"),
		written(2, 3, "1 2 3 4 5 6"), written(3, 2, "0 1 "+long+" 5 -1/7 0"), written(3, 3, "1 1 1 1 1 1 1 1 1"), uniform(1, 1, impl.Rat{}), written(2, 2, "1 2 3"), written(-1, -1, "1"),
		filled(2, 2, []impl.Rat{impl.RatFromInt(1), {}, ratio(plus(2), 4), impl.RatFromInt(1)}), uniform(24, 24, impl.RatOf(5, 3)), uniform(25, 1, impl.RatFromInt(1)),
	}
	vectors := [][]impl.Rat{nil, vectorOf("3"), vectorOf("1/2", "0"), vectorOf("0", "-1", "1"), repeatedRat(24, impl.RatFromInt(1)), {{}, {}}}
	for _, x := range matrices {
		for _, y := range matrices {
			for _, z := range vectors {
				// Most vectors fit no matrix: one each is enough for the others.
				if len(z) != x.Cols && len(z) > 0 {
					continue
				}
				a, b, v := matrixWithRoom(x), matrixWithRoom(y), vectorWithRoom(z)
				impl.MatrixOk(a)
				impl.EqualMatrices(a, b)
				mustBeApart(t, matrixResults(a, b, v), matrixResults(clonedMatrix(x), clonedMatrix(y), clonedVector(z)))
				if !roomIsKept(a.Cells, x.Cells) || !roomIsKept(b.Cells, y.Cells) || !roomIsKept(v, z) {
					t.Errorf("the arguments %v, %v and %v were changed to %v, %v and %v", x, y, z, a, b, v)
				}
			}
		}
	}
}

// TestMatrixSameArgument gives one matrix as both arguments, one of its rows as
// the vector, and elements whose lists are one list.
func TestMatrixSameArgument(t *testing.T) {
	unit := []int{1}
	one := impl.Rat{Num: impl.BigInt{Mag: unit}, Den: unit}
	shared := filled(3, 3, slices.Repeat([]impl.Rat{one}, 9))
	for _, m := range []impl.Matrix{shared, filled(24, 24, slices.Repeat([]impl.Rat{impl.RatOf(-5, 2)}, 576)), filled(1, 1, []impl.Rat{one}), written(2, 2, "1 2 -1/3 0"), written(3, 3, "1 2 3 4 5 6 7 8 9")} {
		x := clonedMatrix(m)
		mustBeApart(t, matrixResults(m, m, rowIn(m, m.Rows-1)), matrixResults(clonedMatrix(x), clonedMatrix(x), clonedVector(rowIn(x, x.Rows-1))))
		if !sameMatrix(m, x) || !impl.EqualMatrices(m, m) {
			t.Errorf("the argument %v was changed to %v", x, m)
		}
	}
}

// TestMatrixNewResults spoils results of calls without matrices as arguments.
func TestMatrixNewResults(t *testing.T) {
	list := []int{0, 1, -1, 2, -2, 0, 1, 7, 1000000000, 7, 1, 0}
	for range 2 {
		all := slices.Clone(list)
		m, identity := impl.MatrixOf(2, 3, all[:6]), impl.IdentityMatrix(3)
		again := impl.MatrixOf(3, 2, all[:6])
		mustBeApart(t, [][]impl.Rat{m.Cells, identity.Cells, again.Cells, impl.MatrixOf(4, 3, all).Cells}, [][]impl.Rat{
			vectorOf("0", "1", "-1", "2", "-2", "0"), vectorOf("1", "0", "0", "0", "1", "0", "0", "0", "1"),
			vectorOf("0", "1", "-1", "2", "-2", "0"), vectorOf("0", "1", "-1", "2", "-2", "0", "1", "7", "1000000000", "7", "1", "0"),
		})
		if !slices.Equal(all, list) {
			t.Errorf("the list %v was changed to %v", list, all)
		}
	}
}
