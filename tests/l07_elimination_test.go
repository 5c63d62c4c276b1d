package tests

import (
	"math/big"
	"math/rand"
	"slices"
	"strings"
	"testing"

	"loop.example/g00830/impl"
)

// A bigForm is what becomes of a matrix in an elimination without the program.
type bigForm struct {
	rows   [][]*big.Rat
	pivots []int
	// The divisors of rows, and -1 for each exchange, in order.
	factors  []*big.Rat
	tooLarge bool
}

func bigReduced(m impl.Matrix) bigForm {
	f := bigForm{rows: make([][]*big.Rat, m.Rows)}
	for i := range f.rows {
		row := rowIn(m, i)
		f.rows[i] = eachNumber(row, row, func(x, _ *big.Rat) *big.Rat { return x })
	}
	for k := 0; k < m.Cols && !f.tooLarge; k++ {
		used := len(f.pivots)
		i := used + slices.IndexFunc(f.rows[used:], func(row []*big.Rat) bool { return row[k].Sign() != 0 })
		if i < used {
			continue
		}
		if i > used {
			f.rows[i], f.rows[used] = f.rows[used], f.rows[i]
			f.factors = append(f.factors, big.NewRat(-1, 1))
		}
		f.factors = append(f.factors, new(big.Rat).Set(f.rows[used][k]))
		f.pivots = append(f.pivots, k)
		f.useRow(used, k)
	}
	return f
}

func (f *bigForm) useRow(used, k int) {
	divisor := new(big.Rat).Set(f.rows[used][k])
	for _, x := range f.rows[used] {
		f.note(x.Quo(x, divisor))
	}
	for i, row := range f.rows {
		factor := new(big.Rat).Set(row[k])
		for j, x := range row {
			if i != used {
				product := bigProduct(factor, f.rows[used][j])
				f.note(product)
				f.note(x.Sub(x, product))
			}
		}
	}
}

func (f *bigForm) note(x *big.Rat) { f.tooLarge = f.tooLarge || !fits(x) }

// cells are nil, as one number, if a number was too large. So are the numbers
// that the functions below make of them.
func (f *bigForm) cells() []*big.Rat {
	if f.tooLarge {
		return []*big.Rat{nil}
	}
	return slices.Concat(f.rows...)
}

func (f *bigForm) determinant(rows, cols int) *big.Rat {
	if f.tooLarge || rows != cols {
		return nil
	}
	if len(f.pivots) < rows {
		return new(big.Rat)
	}
	product := big.NewRat(1, 1)
	for _, factor := range f.factors {
		if product.Mul(product, factor); !fits(product) {
			return nil
		}
	}
	return product
}

func (f *bigForm) nullVectors(cols int) [][]*big.Rat {
	if f.tooLarge {
		return nil
	}
	var vectors [][]*big.Rat
	for k := range cols {
		if slices.Contains(f.pivots, k) {
			continue
		}
		v := make([]*big.Rat, cols)
		for j := range v {
			v[j] = new(big.Rat)
		}
		v[k].SetInt64(1)
		for i, pivot := range f.pivots {
			v[pivot].Neg(f.rows[i][k])
		}
		vectors = append(vectors, v)
	}
	return vectors
}

// solution is what stands beside the first columns if all of them, and no
// others, are pivots.
func (f *bigForm) solution(n int) []*big.Rat {
	if f.tooLarge || n > 12 || len(f.pivots) != n || n > 0 && f.pivots[n-1] != n-1 {
		return []*big.Rat{nil}
	}
	var list []*big.Rat
	for _, row := range f.rows {
		list = append(list, row[n:]...)
	}
	return list
}

// joined is the matrix with further columns on its right.
func joined(m, right impl.Matrix) impl.Matrix {
	var cells []impl.Rat
	for i := range m.Rows {
		cells = append(cells, clonedVector(rowIn(m, i))...)
		cells = append(cells, clonedVector(rowIn(right, i))...)
	}
	return filled(m.Rows, m.Cols+right.Cols, cells)
}

// unitMatrix does not rely on IdentityMatrix.
func unitMatrix(n int) impl.Matrix {
	m := uniform(n, n, ratio(plus(), 1))
	for i := range n {
		m.Cells[i*n+i] = ratio(plus(1), 1)
	}
	return m
}

// diagonal is the matrix with these texts in its diagonal.
func diagonal(texts ...string) impl.Matrix {
	m := unitMatrix(len(texts))
	for i, r := range vectorOf(texts...) {
		m.Cells[i*m.Cols+i] = r
	}
	return m
}

// isNumberOf is isRat for a number that may be nil, because it is refused.
func isNumberOf(got impl.Rat, ok bool, want *big.Rat) bool {
	if want == nil {
		return !ok && isZeroRat(got)
	}
	return ok && isRat(got, want)
}

// mustEliminate compares what the functions of one matrix return with the
// elimination without the program.
func mustEliminate(t *testing.T, m impl.Matrix) {
	t.Helper()
	f := bigReduced(m)
	pivots, rank := f.pivots, len(f.pivots)
	if f.tooLarge {
		pivots, rank = nil, -1
	}
	got, at, ok := impl.Reduce(m)
	if !isMatrixOf(got, ok, m.Rows, m.Cols, f.cells()) || !slices.Equal(at, pivots) {
		t.Errorf("Reduce(%.300v) is %v, %v, %v", m, got, at, ok)
	}
	if got := impl.RankOf(m); got != rank {
		t.Errorf("RankOf(%.300v) is %d, not %d", m, got, rank)
	}
	if got, ok := impl.Determinant(m); !isNumberOf(got, ok, f.determinant(m.Rows, m.Cols)) {
		t.Errorf("Determinant(%.300v) is %v, %v", m, got, ok)
	}
	vectors, ok := impl.NullVectors(m)
	equal := func(v []impl.Rat, want []*big.Rat) bool { return slices.EqualFunc(v, want, isRat) }
	if ok == f.tooLarge || !slices.EqualFunc(vectors, f.nullVectors(m.Cols), equal) {
		t.Errorf("NullVectors(%.300v) is %v, %v", m, vectors, ok)
	}
}

// mustSolve does the same for a square matrix and the right side of a system.
func mustSolve(t *testing.T, m impl.Matrix, v []impl.Rat) {
	t.Helper()
	inverse := bigReduced(joined(m, unitMatrix(m.Rows)))
	if got, ok := impl.Inverse(m); !isMatrixOf(got, ok, m.Rows, m.Rows, inverse.solution(m.Rows)) {
		t.Errorf("Inverse(%.300v) is %v, %v", m, got, ok)
	}
	system := bigReduced(joined(m, filled(m.Rows, 1, v)))
	if got, ok := impl.SolveSystem(m, v); !isVectorOrNone(got, ok, system.solution(m.Rows)) {
		t.Errorf("SolveSystem(%.300v, %.300v) is %v, %v", m, v, got, ok)
	}
}

// mustRefuseInverse and the functions below check that a result is refused.
func mustRefuseInverse(t *testing.T, m impl.Matrix) {
	t.Helper()
	if got, ok := impl.Inverse(m); ok || !isZeroMatrix(got) {
		t.Errorf("Inverse(%.300v) is %v, %v", m, got, ok)
	}
}

func mustRefuseSystem(t *testing.T, m impl.Matrix, v []impl.Rat) {
	t.Helper()
	if got, ok := impl.SolveSystem(m, v); ok || got != nil {
		t.Errorf("SolveSystem(%.300v, %.300v) is %v, %v", m, v, got, ok)
	}
}

func mustRefuseDeterminant(t *testing.T, m impl.Matrix) {
	t.Helper()
	if got, ok := impl.Determinant(m); ok || !isZeroRat(got) {
		t.Errorf("Determinant(%.300v) is %v, %v", m, got, ok)
	}
}

// mustRefuseElimination checks that all functions refuse a matrix.
func mustRefuseElimination(t *testing.T, m impl.Matrix) {
	t.Helper()
	if got, pivots, ok := impl.Reduce(m); ok || !isZeroMatrix(got) || pivots != nil {
		t.Errorf("Reduce(%.300v) is %v, %v, %v", m, got, pivots, ok)
	}
	if got := impl.RankOf(m); got != -1 {
		t.Errorf("RankOf(%.300v) is %d", m, got)
	}
	if got, ok := impl.NullVectors(m); ok || got != nil {
		t.Errorf("NullVectors(%.300v) is %v, %v", m, got, ok)
	}
	mustRefuseDeterminant(t, m)
	mustRefuseInverse(t, m)
	for _, n := range []int{0, 1, m.Rows, m.Cols, 24} {
		if n >= 0 && n <= 24 {
			mustRefuseSystem(t, m, repeatedRat(n, impl.RatFromInt(0)))
		}
	}
}

// chosen is a matrix of elements with these texts.
func chosen(random *rand.Rand, rows, cols int, texts []string) impl.Matrix {
	cells := make([]string, rows*cols)
	for i := range cells {
		cells[i] = texts[random.Intn(len(texts))]
	}
	return filled(rows, cols, vectorOf(cells...))
}

// sparseMatrix has many zeros, and few different other elements.
func sparseMatrix(random *rand.Rand, rows, cols int) impl.Matrix {
	texts := []string{"0", "0", "0", "0", "1", "-1", "2", "-3", "1/2"}
	return chosen(random, rows, cols, texts)
}

// matrixOfRank is a product over the rank, which is hardly ever less.
func matrixOfRank(random *rand.Rand, rows, cols, rank int) impl.Matrix {
	number := func(n int) []int {
		list := make([]int, n)
		for i := range list {
			list[i] = random.Intn(9) - 4
		}
		return list
	}
	m, left, right := filled(rows, cols, nil), number(rows*rank), number(rank*cols)
	for i := range rows {
		for k := range cols {
			sum := 0
			for j := range rank {
				sum += left[i*rank+j] * right[j*cols+k]
			}
			m.Cells = append(m.Cells, impl.RatFromInt(sum))
		}
	}
	return m
}

// powerText is the text of Base to the power of n, which may be negative.
func powerText(n int) string {
	if n < 0 {
		return "1/" + powerText(-n)
	}
	return "1" + strings.Repeat("0", 9*n)
}

// steepMatrix has elements whose products are often too large.
func steepMatrix(random *rand.Rand, rows, cols int) impl.Matrix {
	texts := []string{"0", "0", "0", "1", "-1", powerText(11), powerText(12), powerText(-12), "-" + powerText(-11), "1/1" + powerText(7)}
	return chosen(random, rows, cols, texts)
}

// eachSquare calls try with square matrices, of which many are singular. Of
// some the numbers on the way are too large.
func eachSquare(try func(m impl.Matrix)) {
	random := rand.New(rand.NewSource(21))
	for _, n := range []int{0, 1, 2, 3, 4, 5, 6, 7, 8, 9, 10, 11, 12, 13, 17, 24} {
		try(sparseMatrix(random, n, n))
		try(matrixOfRank(random, n, n, n))
		try(matrixOfRank(random, n, n, n/2))
		try(matrixOfRank(random, n, n, max(n-1, 0)))
	}
	for k := range 210 {
		n := k % 7
		try(sparseMatrix(random, n, n))
		try(steepMatrix(random, n%4, n%4))
		try(randomMatrix(random, n%4, n%4, k%9+1))
	}
}

func TestReduceExamples(t *testing.T) {
	cases := []struct {
		m, want impl.Matrix
		pivots  []int
	}{
		{written(2, 3, "0 2 4 1 1 1"), written(2, 3, "1 0 -1 0 1 2"), []int{0, 1}},
		{written(1, 1, "-7/3"), written(1, 1, "1"), []int{0}},
		{written(1, 1, "0"), written(1, 1, "0"), nil},
		{written(1, 4, "0 0 -2 3"), written(1, 4, "0 0 1 -3/2"), []int{2}},
		{written(4, 1, "0 0 5 3"), written(4, 1, "1 0 0 0"), []int{0}},
		{written(3, 4, "1 2 3 4 2 4 6 9 -1 -2 -3 5"), written(3, 4, "1 2 3 0 0 0 0 1 0 0 0 0"), []int{0, 3}},
		{written(3, 3, "0 0 2 0 3 1 4 1 1"), written(3, 3, "1 0 0 0 1 0 0 0 1"), []int{0, 1, 2}},
		{written(3, 5, "0 0 0 0 0 0 0 0 3 1/2 0 0 1 1 1"), written(3, 5, "0 0 1 0 5/6 0 0 0 1 1/6 0 0 0 0 0"), []int{2, 3}},
		{written(2, 2, "1 2 2 4"), written(2, 2, "1 2 0 0"), []int{0}},
		{written(2, 2, "0 0 0 0"), written(2, 2, "0 0 0 0"), nil},
	}
	for i, c := range cases {
		got, pivots, ok := impl.Reduce(c.m)
		if !ok || !sameMatrix(got, c.want) || !slices.Equal(pivots, c.pivots) {
			t.Errorf("the reduced form %d is %v, %v, %v", i, got, pivots, ok)
		}
	}
}

// TestEliminationOfAllSizes has matrices of all ranks and sizes.
func TestEliminationOfAllSizes(t *testing.T) {
	random := rand.New(rand.NewSource(22))
	sizes := []int{0, 1, 2, 3, 4, 7, 12, 13, 23, 24}
	for _, rows := range sizes {
		for _, cols := range sizes {
			mustEliminate(t, uniform(rows, cols, ratio(plus(), 1)))
			mustEliminate(t, uniform(rows, cols, impl.RatOf(-7, 3)))
			mustEliminate(t, sparseMatrix(random, rows, cols))
			for _, rank := range []int{1, 2, 5, 11} {
				mustEliminate(t, matrixOfRank(random, rows, cols, rank))
			}
		}
	}
}

// TestEliminationOfSteep has numbers of which some are too large, at first or
// on the way.
func TestEliminationOfSteep(t *testing.T) {
	random := rand.New(rand.NewSource(23))
	for k := range 600 {
		rows, cols := k%4+1, k*7%5+1
		mustEliminate(t, steepMatrix(random, rows, cols))
		mustEliminate(t, randomMatrix(random, rows, cols, k%8+1))
		long := randomRat(random, impl.MaxRat)
		mustEliminate(t, withCell(sparseMatrix(random, rows, cols), k%rows, k*3%cols, long))
	}
	edges := edgeRats()
	for i, r := range edges {
		for k := range 5 {
			s := edges[(i*7+k*31)%len(edges)]
			mustEliminate(t, filled(1, 2, []impl.Rat{r, s}))
			mustEliminate(t, filled(2, 1, []impl.Rat{r, s}))
			mustEliminate(t, filled(2, 2, []impl.Rat{r, s, s, edges[k]}))
		}
	}
}

// TestEliminationOfSquares adds the functions that are about squares only.
func TestEliminationOfSquares(t *testing.T) {
	random := rand.New(rand.NewSource(24))
	eachSquare(func(m impl.Matrix) {
		mustEliminate(t, m)
		if m.Rows <= 14 {
			mustSolve(t, m, smallMatrix(random, m.Rows, 1).Cells)
			mustSolve(t, m, steepMatrix(random, m.Rows, 1).Cells)
		}
	})
}

// TestReduceTooLarge is about the kinds of numbers that may be too large, each
// beside a matrix in which that number fits.
func TestReduceTooLarge(t *testing.T) {
	// The second number is greater by 1.
	p, q := powerText(20), "1"+strings.Repeat("0", 179)+"1"
	cases := []struct {
		rows, cols  int
		wrong, fits string
	}{
		// A quotient.
		{1, 2, powerText(-23) + " " + powerText(1), powerText(-23) + " 999999999"},
		{1, 2, powerText(23) + " " + powerText(-1), powerText(23) + " 1/999999999"},
		// A multiple below or above its row, though the difference fits: 1/p
		// minus 1/p/q is 1/q.
		{2, 2, "1 1/" + q + " 1/" + p + " 1/" + p, "1 1/" + q + " 0 1/" + p},
		{2, 3, "1 1/" + p + " 1/" + p + " 0 1 1/" + q, "1 0 1/" + p + " 0 1 1/" + q},
		// A difference, though the multiple fits: 1/p - 1/q is 1/p/q.
		{2, 2, "1 1/" + q + " 1 1/" + p, "1 1/" + q + " 1 0"},
		{2, 3, "1 1 1/" + p + " 0 1 1/" + q, "1 1 1/" + q + " 0 1 1/" + q},
		// The first row with another element than 0 is the pivot, not a later
		// or a greater one.
		{2, 2, powerText(-23) + " " + powerText(1) + " 1 0", "1 0 " + powerText(-23) + " " + powerText(1)},
		{2, 2, powerText(-12) + " 1 " + powerText(12) + " 0", powerText(12) + " 0 " + powerText(-12) + " 1"},
	}
	for i, c := range cases {
		mustRefuseElimination(t, written(c.rows, c.cols, c.wrong))
		if got := impl.RankOf(written(c.rows, c.cols, c.fits)); got != min(c.rows, c.cols) {
			t.Errorf("the matrix %d fits, but its rank is %d", i, got)
		}
		mustEliminate(t, written(c.rows, c.cols, c.wrong))
		mustEliminate(t, written(c.rows, c.cols, c.fits))
	}
}

// TestReduceTooLargeAtEachIndex puts a quotient that is too large in each
// column behind a pivot, and a multiple in each row beside it.
func TestReduceTooLargeAtEachIndex(t *testing.T) {
	long, tiny, zero := vectorOf(powerText(23))[0], vectorOf(powerText(-1))[0], impl.RatFromInt(0)
	for _, n := range []int{1, 2, 3, 13, 24} {
		for pivot := range n {
			for i := range n {
				row, column := uniform(1, n, zero), uniform(n, 2, zero)
				row.Cells[i], row.Cells[pivot] = tiny, long
				column.Cells[2*i], column.Cells[2*pivot], column.Cells[2*pivot+1] = long, impl.RatFromInt(1), vectorOf(powerText(1))[0]
				if i > pivot {
					mustRefuseElimination(t, row)
					mustRefuseElimination(t, column)
				} else {
					mustEliminate(t, row)
					mustEliminate(t, column)
				}
			}
		}
	}
}

// TestRankAndNullVectors checks the null vectors by their definition, and that
// they and the pivots are as many as the columns.
func TestRankAndNullVectors(t *testing.T) {
	random := rand.New(rand.NewSource(25))
	try := func(m impl.Matrix, rank int) {
		if got := impl.RankOf(m); got != rank {
			t.Errorf("RankOf(%.300v) is %d, not %d", m, got, rank)
		}
		vectors, ok := impl.NullVectors(m)
		if !ok || len(vectors) != m.Cols-rank {
			t.Errorf("NullVectors(%.300v) is %v, %v", m, vectors, ok)
		}
		all := filled(len(vectors), m.Cols, slices.Concat(vectors...))
		if impl.RankOf(all) != len(vectors) {
			t.Errorf("the null vectors %.300v depend on each other", all)
		}
		for _, v := range vectors {
			if got, ok := impl.ApplyMatrix(m, v); !ok || !sameVector(got, repeatedRat(m.Rows, ratio(plus(), 1))) {
				t.Errorf("%.300v maps the null vector %v to %v, %v", m, v, got, ok)
			}
		}
	}
	for rows := range 13 {
		for cols := range 13 {
			try(filled(rows, cols, repeatedRat(rows*cols, impl.RatFromInt(0))), 0)
			if rows > 0 && cols > 0 {
				try(uniform(rows, cols, impl.RatOf(-5, 7)), 1)
			}
			rank := random.Intn(min(rows, cols) + 1)
			m := matrixOfRank(random, rows, cols, rank)
			// By chance, the factors of the product may have a smaller rank.
			want := len(bigReduced(m).pivots)
			if want > rank || rows > 5 && cols > 5 && want < rank-1 {
				t.Errorf("a matrix of the rank %d has the rank %d", rank, want)
			}
			try(m, want)
			try(turned(m), want)
		}
	}
	try(unitMatrix(24), 24)
	try(uniform(24, 24, impl.RatFromInt(2)), 1)
	try(filled(0, 24, nil), 0)
	try(filled(24, 0, nil), 0)
}

func TestNullVectorExamples(t *testing.T) {
	cases := []struct {
		m    impl.Matrix
		want []string
	}{
		{written(2, 3, "0 2 4 1 1 1"), []string{"1 -2 1"}},
		{written(1, 4, "0 2 1 -6"), []string{"1 0 0 0", "0 -1/2 1 0", "0 3 0 1"}},
		{written(2, 5, "0 1 2 0 3 0 0 0 1 4"), []string{"1 0 0 0 0", "0 -2 1 0 0", "0 -3 0 -4 1"}},
		{written(1, 2, "0 0"), []string{"1 0", "0 1"}},
		{filled(0, 3, nil), []string{"1 0 0", "0 1 0", "0 0 1"}},
		{written(2, 2, "0 5 1 0"), nil},
		{written(3, 1, "0 0 7"), nil},
		{filled(3, 0, nil), nil},
		{impl.Matrix{}, nil},
	}
	for i, c := range cases {
		got, ok := impl.NullVectors(c.m)
		want := func(v []impl.Rat, text string) bool { return sameVector(v, vectorOf(strings.Fields(text)...)) }
		if !ok || !slices.EqualFunc(got, c.want, want) {
			t.Errorf("the null vectors %d are %v, %v", i, got, ok)
		}
	}
}

// permutations are all orders of the numbers up to n, with their signs.
func permutations(n int) ([][]int, []int) {
	if n == 0 {
		return [][]int{{}}, []int{1}
	}
	var orders [][]int
	var signs []int
	shorter, theirs := permutations(n - 1)
	for i, order := range shorter {
		for at := range n {
			orders = append(orders, slices.Insert(slices.Clone(order), at, n-1))
			// The greatest number passes those behind it.
			signs = append(signs, theirs[i]*(1-2*((n-1-at)%2)))
		}
	}
	return orders, signs
}

// TestDeterminantOfPermutations has matrices with one number other than 0 in
// each row, which take all kinds of exchanges.
func TestDeterminantOfPermutations(t *testing.T) {
	for n := range 7 {
		orders, signs := permutations(n)
		for i, order := range orders {
			m, product := uniform(n, n, ratio(plus(), 1)), signs[i]
			for row, k := range order {
				m.Cells[row*n+k] = impl.RatFromInt(2*row - 3)
				product *= 2*row - 3
			}
			if got, ok := impl.Determinant(m); !ok || !sameRat(got, impl.RatFromInt(product)) {
				t.Errorf("the determinant of the permutation %v is %v, %v", order, got, ok)
			}
		}
	}
}

// TestDeterminantByPermutations adds the products over all permutations.
func TestDeterminantByPermutations(t *testing.T) {
	random := rand.New(rand.NewSource(26))
	for k := range 300 {
		n := k % 6
		m := smallMatrix(random, n, n)
		if k%3 == 0 {
			m = sparseMatrix(random, n, n)
		}
		sum := new(big.Rat)
		orders, signs := permutations(n)
		for i, order := range orders {
			product := big.NewRat(int64(signs[i]), 1)
			for row, column := range order {
				product.Mul(product, toBigRat(m.Cells[row*n+column]))
			}
			sum.Add(sum, product)
		}
		if got, ok := impl.Determinant(m); !ok || !isRat(got, sum) {
			t.Errorf("Determinant(%v) is %v, %v", m, got, ok)
		}
		if got, ok := impl.Determinant(turned(m)); !ok || !isRat(got, sum) {
			t.Errorf("the determinant of the transpose of %v is %v, %v", m, got, ok)
		}
	}
}

// TestDeterminantOrder is about products that are too large in one order only.
func TestDeterminantOrder(t *testing.T) {
	much, little := powerText(12), powerText(-12)
	cases := []struct {
		m    impl.Matrix
		want string
	}{
		{diagonal(much, little, much), much},
		{diagonal(much, much, little), ""},
		{diagonal(little, little, much), ""},
		{diagonal(little, much, little), little},
		{diagonal("-1", powerText(23), "999999999"), "-999999999" + strings.Repeat("0", 207)},
		{diagonal(powerText(23), "1000000000"), ""},
		{diagonal(much, much, "0"), "0"},
		{diagonal("0", much, much), "0"},
		{diagonal(much, "0", much), "0"},
		{written(2, 2, "0 "+much+" "+much+" 0"), ""},
		{written(2, 2, "0 "+much+" "+powerText(11)+" 0"), "-" + powerText(23)},
		// The first pivot is in the second row, and so on.
		{written(3, 3, "0 0 "+much+" "+much+" 0 0 0 "+little+" 0"), much},
		{written(3, 3, "0 0 "+little+" "+much+" 0 0 0 "+much+" 0"), ""},
		{written(3, 3, "0 "+much+" 0 "+little+" 0 0 0 0 "+little), "-" + little},
		// The divisor of the second row is -1/2, and not 1.
		{written(2, 2, "2 3 1 1"), "-1"},
	}
	for i, c := range cases {
		if got, ok := impl.Determinant(c.m); ok != (c.want != "") || impl.FormatRat(got) != c.want || !ok && !isZeroRat(got) {
			t.Errorf("the determinant %d is %v, %v", i, got, ok)
		}
		mustEliminate(t, c.m)
	}
}

// TestDeterminantOfOtherSizes has matrices without rows, and matrices that are
// no squares, though all their numbers fit.
func TestDeterminantOfOtherSizes(t *testing.T) {
	eachSize(func(rows, cols int) {
		m := uniform(rows, cols, impl.RatOf(3, 2))
		if rows != cols {
			mustRefuseDeterminant(t, m)
			return
		}
		want := "0"
		if rows < 2 {
			want = []string{"1", "3/2"}[rows]
		}
		if got, ok := impl.Determinant(m); !ok || impl.FormatRat(got) != want {
			t.Errorf("the determinant of %d equal rows is %v, %v", rows, got, ok)
		}
		if got, ok := impl.Determinant(unitMatrix(rows)); !ok || !sameRat(got, impl.RatFromInt(1)) {
			t.Errorf("the determinant of the identity of %d rows is %v, %v", rows, got, ok)
		}
	})
}

func TestInverseExamples(t *testing.T) {
	cases := []struct{ m, want impl.Matrix }{
		{impl.Matrix{}, impl.Matrix{}},
		{written(1, 1, "-2/3"), written(1, 1, "-3/2")},
		{written(2, 2, "0 2 3 1"), written(2, 2, "-1/6 1/3 1/2 0")},
		{written(2, 2, "1/2 0 0 -5"), written(2, 2, "2 0 0 -1/5")},
		{written(3, 3, "0 1 0 0 0 1 1 0 0"), written(3, 3, "0 0 1 1 0 0 0 1 0")},
		{written(3, 3, "2 0 1 1 1 0 0 3 1"), written(3, 3, "1/5 3/5 -1/5 -1/5 2/5 1/5 3/5 -6/5 2/5")},
	}
	for i, c := range cases {
		if got, ok := impl.Inverse(c.m); !ok || !sameMatrix(got, c.want) {
			t.Errorf("the inverse %d is %v, %v", i, got, ok)
		}
		if got, ok := impl.Inverse(c.want); !ok || !sameMatrix(got, c.m) {
			t.Errorf("the inverse of the inverse %d is %v, %v", i, got, ok)
		}
	}
}

// TestInverseAndDeterminant checks the inverses by their definition, that a
// matrix has one if and only if its determinant is not 0, and that it solves
// the systems.
func TestInverseAndDeterminant(t *testing.T) {
	random := rand.New(rand.NewSource(27))
	singular, regular := 0, 0
	for k := range 260 {
		n := k % 13
		m := sparseMatrix(random, n, n)
		if k%4 == 0 {
			m = matrixOfRank(random, n, n, max(n-k%3, 0))
		}
		v := sparseMatrix(random, n, 1).Cells
		determinant, determinantOk := impl.Determinant(m)
		if !determinantOk {
			t.Fatalf("Determinant(%v) is refused", m)
		}
		if impl.RatSign(determinant) == 0 {
			singular++
			mustRefuseInverse(t, m)
			mustRefuseSystem(t, m, v)
			mustRefuseSystem(t, m, impl.ZeroVector(n))
			continue
		}
		regular++
		inverse, ok := impl.Inverse(m)
		left, _ := impl.Multiply(inverse, m)
		right, _ := impl.Multiply(m, inverse)
		if !ok || !sameMatrix(left, unitMatrix(n)) || !sameMatrix(right, unitMatrix(n)) {
			t.Errorf("Inverse(%v) is %v, %v", m, inverse, ok)
		}
		if other, ok := impl.Determinant(inverse); !ok || !sameRat(impl.RatMul(determinant, other), impl.RatFromInt(1)) {
			t.Errorf("the determinants of %v and its inverse are %v and %v", m, determinant, other)
		}
		solution, ok := impl.SolveSystem(m, v)
		applied, _ := impl.ApplyMatrix(m, solution)
		product, _ := impl.ApplyMatrix(inverse, v)
		if !ok || !sameVector(applied, v) || !sameVector(product, solution) {
			t.Errorf("SolveSystem(%v, %v) is %v, %v", m, v, solution, ok)
		}
	}
	if singular < 50 || regular < 50 {
		t.Errorf("there are %d singular and %d other matrices", singular, regular)
	}
}

// TestSystemSizes has matrices of all sizes: those of more than 12 rows, and
// those that are no squares, are refused though they have pivots in all rows.
func TestSystemSizes(t *testing.T) {
	eachSize(func(rows, cols int) {
		m := uniform(rows, cols, ratio(plus(), 1))
		for i := range min(rows, cols) {
			m.Cells[i*cols+i] = impl.RatOf(2, 3)
		}
		v := repeatedRat(rows, impl.RatFromInt(2))
		if rows != cols || rows > 12 {
			mustRefuseInverse(t, m)
			mustRefuseSystem(t, m, v)
			mustRefuseSystem(t, m, v[:min(rows, cols)])
			// These have a solution, if m may be any valid matrix.
			mustRefuseSystem(t, m, impl.ZeroVector(rows))
			mustRefuseSystem(t, m, columnIn(joined(m, uniform(rows, 1, impl.RatFromInt(0))), 0))
			return
		}
		want := unitMatrix(rows)
		for i := range rows {
			want.Cells[i*rows+i] = impl.RatOf(3, 2)
		}
		if got, ok := impl.Inverse(m); !ok || !sameMatrix(got, want) {
			t.Errorf("Inverse(%v) is %v, %v", m, got, ok)
		}
		if got, ok := impl.SolveSystem(m, v); !ok || !sameVector(got, repeatedRat(rows, impl.RatFromInt(3))) {
			t.Errorf("SolveSystem(%v, %v) is %v, %v", m, v, got, ok)
		}
		for _, n := range lengthsAround() {
			if n != rows {
				mustRefuseSystem(t, m, repeatedRat(n, impl.RatFromInt(2)))
			}
		}
	})
}

func TestSolveSystemExamples(t *testing.T) {
	cases := []struct {
		m       impl.Matrix
		v, want string
	}{
		{written(2, 2, "0 2 3 1"), "4 5", "1 2"},
		{written(1, 1, "-2/3"), "7", "-21/2"},
		{written(1, 1, "5"), "0", "0"},
		{written(3, 3, "2 0 1 1 1 0 0 3 1"), "5 5 0", "4 1 -3"},
		{impl.Matrix{}, "", ""},
	}
	for i, c := range cases {
		got, ok := impl.SolveSystem(c.m, vectorOf(strings.Fields(c.v)...))
		if !ok || impl.FormatVector(got) != c.want {
			t.Errorf("the solution %d is %v, %v", i, got, ok)
		}
	}
	// A singular system is refused with solutions, and without them: then the
	// further column is a pivot, so that there are as many pivots as rows.
	for _, v := range []string{"0 0", "1 2", "-3 -6", "1 0", "0 1", "1 3"} {
		mustRefuseSystem(t, written(2, 2, "1 2 2 4"), vectorOf(strings.Fields(v)...))
		mustRefuseSystem(t, written(2, 2, "0 1 0 2"), vectorOf(strings.Fields(v)...))
		mustRefuseSystem(t, written(2, 2, "0 0 0 0"), vectorOf(strings.Fields(v)...))
	}
}

// TestSolutionsTooLarge is about numbers that are too large on the right only:
// the matrix itself can be reduced, and has a determinant.
func TestSolutionsTooLarge(t *testing.T) {
	m := written(2, 2, "1 "+powerText(12)+" 0 "+powerText(-13))
	if got, ok := impl.Determinant(m); !ok || impl.RankOf(m) != 2 || impl.FormatRat(got) != powerText(-13) {
		t.Errorf("the determinant is %v, %v", got, ok)
	}
	mustRefuseInverse(t, m)
	for _, text := range []string{"1", powerText(-1), powerText(11)} {
		mustRefuseSystem(t, m, vectorOf("0", text))
	}
	if got, ok := impl.SolveSystem(m, vectorOf("1", "0")); !ok || !sameVector(got, vectorOf("1", "0")) {
		t.Errorf("the solution is %v, %v", got, ok)
	}
	if got, ok := impl.SolveSystem(m, vectorOf("0", powerText(-2))); !ok || !sameVector(got, vectorOf("-"+powerText(23), powerText(11))) {
		t.Errorf("the solution is %v, %v", got, ok)
	}
	// The same at each index of a result.
	long, tiny := vectorOf(powerText(12))[0], vectorOf(powerText(-13))[0]
	for _, n := range []int{2, 3, 12} {
		for k := range n {
			steep := withCell(unitMatrix(n), k, k, tiny)
			mustRefuseSystem(t, steep, replaced(impl.ZeroVector(n), k, long))
			if _, ok := impl.Inverse(steep); !ok {
				t.Errorf("Inverse(%v) is refused", steep)
			}
			for i := range n {
				if i == k {
					continue
				}
				mustSolve(t, steep, replaced(impl.ZeroVector(n), i, long))
				mustRefuseInverse(t, withCell(steep, i, k, long))
			}
		}
	}
}

func TestEliminationOfMisfits(t *testing.T) {
	for _, m := range misfits() {
		mustRefuseElimination(t, m)
	}
}

// TestEliminationOfInvalidCells has, beside small matrices, identities.
func TestEliminationOfInvalidCells(t *testing.T) {
	eachInvalidCell(func(m impl.Matrix) { mustRefuseElimination(t, m) })
	for n, bad := range notRats() {
		mustRefuseElimination(t, withCell(unitMatrix(12), n%12, n*5%12, bad))
		mustRefuseElimination(t, withCell(unitMatrix(24), 23-n%24, n*5%24, bad))
	}
}

// TestSolveSystemOfInvalid has right sides that are not valid.
func TestSolveSystemOfInvalid(t *testing.T) {
	for _, bad := range notRats() {
		for _, n := range []int{1, 2, 5, 12} {
			for i := range n {
				mustRefuseSystem(t, unitMatrix(n), replaced(impl.ZeroVector(n), i, bad))
				mustRefuseSystem(t, diagonal(slices.Repeat([]string{"-2/3"}, n)...), replaced(repeatedRat(n, impl.RatFromInt(1)), i, bad))
			}
		}
		mustRefuseSystem(t, impl.Matrix{}, []impl.Rat{bad})
	}
}

// TestEliminationWithoutCells is about both ways to write the empty list.
func TestEliminationWithoutCells(t *testing.T) {
	for _, cells := range [][]impl.Rat{nil, {}, make([]impl.Rat, 0, 5)} {
		for _, size := range [][2]int{{0, 0}, {0, 1}, {1, 0}, {0, 5}, {5, 0}, {0, 24}, {24, 0}} {
			m := filled(size[0], size[1], cells)
			got, pivots, ok := impl.Reduce(m)
			if !ok || !sameMatrix(got, m) || len(pivots) > 0 || impl.RankOf(m) != 0 {
				t.Errorf("Reduce(%v) is %v, %v, %v", m, got, pivots, ok)
			}
			mustEliminate(t, m)
		}
		m := impl.Matrix{Cells: cells}
		if got, ok := impl.Determinant(m); !ok || !sameRat(got, ratio(plus(1), 1)) {
			t.Errorf("the determinant is %v, %v", got, ok)
		}
		if got, ok := impl.Inverse(m); !ok || !isZeroMatrix(got) {
			t.Errorf("the inverse is %v, %v", got, ok)
		}
		if got, ok := impl.SolveSystem(m, cells); !ok || len(got) > 0 {
			t.Errorf("the solution is %v, %v", got, ok)
		}
	}
}

// eliminationResults are the cells of all matrices, and all vectors and
// fractions, that the functions return. The pivots are given as a denominator.
func eliminationResults(m impl.Matrix, v []impl.Rat) [][]impl.Rat {
	reduced, pivots, _ := impl.Reduce(m)
	determinant, _ := impl.Determinant(m)
	inverse, _ := impl.Inverse(m)
	solution, _ := impl.SolveSystem(m, v)
	vectors, _ := impl.NullVectors(m)
	return append(vectors, reduced.Cells, []impl.Rat{{Den: pivots}}, []impl.Rat{determinant}, inverse.Cells, solution)
}

// uniformLists are lists of n equal elements each, also of such that are not
// valid, and the empty list.
func uniformLists(n int) [][]impl.Rat {
	lists := [][]impl.Rat{nil}
	for _, r := range []impl.Rat{impl.RatFromInt(0), impl.RatOf(-3, 2), impl.RatFromInt(1), {}} {
		lists = append(lists, repeatedRat(n, r))
	}
	return lists
}

// TestEliminationMemory checks that neither the arguments, with the room behind
// them, nor the other results change when results are spoiled.
func TestEliminationMemory(t *testing.T) {
	long := impl.FormatRat(ratio(minus(greatest(24)...), power(23)...))
	matrices := []impl.Matrix{
		{}, filled(0, 3, nil), filled(3, 0, nil), written(1, 1, "-7/3"), written(1, 1, "1"), written(1, 1, "0"), written(2, 2, "0 0 0 0"), written(2, 2, "1 0 0 1"), written(2, 2, "0 1 1 0"),
		written(2, 2, "1/2 -12/5 1000000007/3 0"), written(2, 2, "1 2 2 4"), written(2, 3, "1 2 3 4 5 6"), written(2, 4, "1 0 0 5 0 0 1 "+long), written(3, 2, "0 1 "+long+" 5 -1/7 0"),
		unitMatrix(3), unitMatrix(12), uniform(3, 3, impl.RatFromInt(1)), uniform(1, 1, impl.Rat{}), written(2, 2, "1 2 3"), written(-1, -1, "1"), uniform(24, 24, impl.RatOf(5, 3)), unitMatrix(24),
		filled(2, 2, []impl.Rat{impl.RatFromInt(1), {}, ratio(plus(2), 4), impl.RatFromInt(1)}), uniform(25, 1, impl.RatFromInt(1)), written(1, 2, powerText(-23)+" "+powerText(1)),
		diagonal(powerText(12), powerText(12), powerText(-12)),
	}
	for _, x := range matrices {
		n := max(x.Rows, 0)
		for _, z := range uniformLists(n) {
			m, v := matrixWithRoom(x), vectorWithRoom(z)
			rank := impl.RankOf(m)
			mustBeApart(t, eliminationResults(m, v), eliminationResults(clonedMatrix(x), clonedVector(z)))
			if !roomIsKept(m.Cells, x.Cells) || !roomIsKept(v, z) || impl.RankOf(m) != rank {
				t.Errorf("the arguments %v and %v were changed to %v and %v", x, z, m, v)
			}
		}
	}
}

// sharedMatrices have elements whose lists are one list.
func sharedMatrices() []impl.Matrix {
	unit := []int{1}
	one, zero := impl.Rat{Num: impl.BigInt{Mag: unit}, Den: unit}, impl.Rat{Den: unit}
	cells := []impl.Rat{one, zero, one, zero, one, zero, zero, zero, one}
	return []impl.Matrix{
		filled(3, 3, cells), filled(2, 3, cells[:6]), filled(3, 3, []impl.Rat{one, zero, zero, zero, one, zero, zero, zero, one}), filled(2, 2, []impl.Rat{one, zero, zero, one}),
		filled(3, 3, slices.Repeat([]impl.Rat{one}, 9)), filled(1, 1, []impl.Rat{one}), filled(24, 24, slices.Repeat([]impl.Rat{impl.RatOf(-5, 2)}, 576)),
	}
}

// TestEliminationSameArgument gives a row of a matrix as the right side, and
// elements whose lists are one list.
func TestEliminationSameArgument(t *testing.T) {
	for _, m := range append(sharedMatrices(), written(2, 2, "1 2 -1/3 0")) {
		x := clonedMatrix(m)
		mustBeApart(t, eliminationResults(m, rowIn(m, m.Rows-1)), eliminationResults(clonedMatrix(x), clonedVector(rowIn(x, x.Rows-1))))
		if !sameMatrix(m, x) {
			t.Errorf("the argument %v was changed to %v", x, m)
		}
	}
}
