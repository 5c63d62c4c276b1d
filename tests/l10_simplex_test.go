package tests

import (
	"math"
	"math/big"
	"math/rand"
	"slices"
	"testing"

	"loop.example/g00830/impl"
)

// An answer is what is known about a program without the functions.
type answer struct {
	code  int
	x     []*big.Rat
	value *big.Rat
}

// optimum is the answer with these numbers.
func optimum(value string, x ...string) answer {
	numbers, objective := bigRats(vectorOf(x...)), bigRats(vectorOf(value))
	return answer{impl.LpOk, numbers, objective[0]}
}

func bigRats(list []impl.Rat) []*big.Rat {
	numbers := make([]*big.Rat, len(list))
	for i, r := range list {
		numbers[i] = toBigRat(r)
	}
	return numbers
}

// isAnswer tells whether a result is exactly the answer, with lists in their
// only form, and with zero values where there is no solution.
func isAnswer(got impl.Result, want answer) bool {
	if want.code != impl.LpOk {
		return got.Code == want.code && len(got.X) == 0 && isZeroRat(got.Value)
	}
	return got.Code == want.code && isRat(got.Value, want.value) && slices.EqualFunc(got.X, want.x, isRat)
}

// withObjective is the program with this objective, in other memory.
func withObjective(p impl.Program, objective []int) impl.Program {
	other := clonedProgram(p)
	other.C = slices.Clone(objective)
	return other
}

// opposite are the negatives of numbers.
func opposite(numbers []int) []int {
	list := make([]int, len(numbers))
	for i, n := range numbers {
		list[i] = -n
	}
	return list
}

// mustAnswer checks what all functions return for a valid program, and that it
// is left as it is.
func mustAnswer(t *testing.T, p impl.Program, want answer) {
	t.Helper()
	kept := clonedProgram(p)
	if got := impl.SolveProgram(p); !isAnswer(got, want) {
		t.Errorf("SolveProgram(%s) is %s, not %s", brief(p), brief(got), brief(resultOf(want)))
	}
	solvable := want.code == impl.LpOk || want.code == impl.LpOpen
	if impl.HasSolution(p) != solvable {
		t.Errorf("HasSolution(%s) is %v", brief(p), !solvable)
	}
	if want.code == impl.LpOk {
		want.value = new(big.Rat).Neg(want.value)
	}
	if got := impl.LeastOf(withObjective(p, opposite(p.C))); !isAnswer(got, want) {
		t.Errorf("LeastOf(%s) with the opposite objective is %s, not %s", brief(p), brief(got), brief(resultOf(want)))
	}
	if !sameProgram(p, kept) {
		t.Errorf("the program %s was changed to %s", brief(kept), brief(p))
	}
}

func sameProgram(p, q impl.Program) bool {
	return p.Rows == q.Rows && p.Cols == q.Cols && slices.Equal(p.A, q.A) && slices.Equal(p.B, q.B) && slices.Equal(p.C, q.C)
}

// mustRefuseToSolve is about a program that is not valid.
func mustRefuseToSolve(t *testing.T, p impl.Program) {
	t.Helper()
	want := answer{code: impl.LpForm}
	if got := impl.SolveProgram(p); !isAnswer(got, want) {
		t.Errorf("SolveProgram(%s) is %s", brief(p), brief(got))
	}
	if got := impl.LeastOf(p); !isAnswer(got, want) {
		t.Errorf("LeastOf(%s) is %s", brief(p), brief(got))
	}
	if impl.HasSolution(p) {
		t.Errorf("HasSolution(%s) is true", brief(p))
	}
}

// A bigTable is a simplex table with the fractions of math/big. The last cell of
// each line is its right side. Of the costs, each line counts more than all
// lines after it.
type bigTable struct {
	rows, costs [][]*big.Rat
	basis       []int
}

// lessCost tells whether the costs become less if the variable of the column
// grows.
func (b *bigTable) lessCost(column int) bool {
	for _, cost := range b.costs {
		if sign := cost[column].Sign(); sign != 0 {
			return sign < 0
		}
	}
	return false
}

// firstRow is the row that limits a column first, or -1.
func (b *bigTable) firstRow(column int) int {
	found, least := -1, new(big.Rat)
	for i, row := range b.rows {
		if row[column].Sign() <= 0 {
			continue
		}
		ratio := new(big.Rat).Quo(row[len(row)-1], row[column])
		order := ratio.Cmp(least)
		if found < 0 || order < 0 || order == 0 && b.basis[i] < b.basis[found] {
			found, least = i, ratio
		}
	}
	return found
}

func (b *bigTable) pivot(i, column int) {
	pivotRow := b.rows[i]
	inverse := new(big.Rat).Inv(pivotRow[column])
	for k, cell := range pivotRow {
		pivotRow[k] = new(big.Rat).Mul(cell, inverse)
	}
	b.basis[i] = column
	for _, line := range slices.Concat(b.rows, b.costs) {
		factor := line[column]
		if &line[0] == &pivotRow[0] || factor.Sign() == 0 {
			continue
		}
		for k, cell := range pivotRow {
			if cell.Sign() != 0 {
				line[k] = new(big.Rat).Sub(line[k], new(big.Rat).Mul(factor, cell))
			}
		}
	}
}

// lower makes the costs as small as possible with these many first columns. It
// tells whether there are least costs.
func (b *bigTable) lower(columns int) bool {
	for column := 0; column < columns; column++ {
		if !b.lessCost(column) {
			continue
		}
		row := b.firstRow(column)
		if row < 0 {
			return false
		}
		b.pivot(row, column)
		column = -1
	}
	return true
}

func zeros(n int) []*big.Rat {
	line := make([]*big.Rat, n)
	for i := range line {
		line[i] = new(big.Rat)
	}
	return line
}

// tableOf has one further column for each row, and costs that are the sum of
// these.
func tableOf(p impl.Program) *bigTable {
	width := p.Cols + p.Rows + 1
	b := &bigTable{costs: [][]*big.Rat{zeros(width)}}
	for i, right := range p.B {
		row, sign := zeros(width), int64(1)
		if right < 0 {
			sign = -1
		}
		for j, n := range rowNumbers(p, i) {
			row[j].SetInt64(sign * int64(n))
		}
		row[p.Cols+i].SetInt64(1)
		row[width-1].SetInt64(sign * int64(right))
		b.rows, b.basis = append(b.rows, row), append(b.basis, p.Cols+i)
		for k, cell := range row {
			if k < p.Cols || k == width-1 {
				b.costs[0][k].Sub(b.costs[0][k], cell)
			}
		}
	}
	return b
}

// forgetRows removes the further columns from the basis, and the rows that say
// nothing about the others.
func (b *bigTable) forgetRows(columns int) {
	for i := len(b.rows) - 1; i >= 0; i-- {
		if b.basis[i] < columns {
			continue
		}
		column := slices.IndexFunc(b.rows[i][:columns], func(r *big.Rat) bool { return r.Sign() != 0 })
		if column >= 0 {
			b.pivot(i, column)
		} else {
			b.rows, b.basis = slices.Delete(b.rows, i, i+1), slices.Delete(b.basis, i, i+1)
		}
	}
}

// setCosts makes the objective, and then each element of x, the costs.
func (b *bigTable) setCosts(objective []int, width int) {
	b.costs = [][]*big.Rat{zeros(width)}
	for j, n := range objective {
		b.costs[0][j].SetInt64(-int64(n))
		cost := zeros(width)
		cost[j].SetInt64(1)
		b.costs = append(b.costs, cost)
	}
	for i, column := range b.basis {
		b.pivot(i, column)
	}
}

// bigAnswer solves a valid program with math/big, for all ends at once.
func bigAnswer(p impl.Program) answer {
	b := tableOf(p)
	b.lower(p.Cols)
	if width := p.Cols + p.Rows + 1; b.costs[0][width-1].Sign() != 0 {
		return answer{code: impl.LpNone}
	}
	b.forgetRows(p.Cols)
	b.setCosts(p.C, p.Cols+p.Rows+1)
	if !b.lower(p.Cols) {
		return answer{code: impl.LpOpen}
	}
	x := zeros(p.Cols)
	for i, column := range b.basis {
		x[column] = b.rows[i][p.Cols+p.Rows]
	}
	return answer{impl.LpOk, x, objectiveOf(p.C, x)}
}

func objectiveOf(numbers []int, x []*big.Rat) *big.Rat {
	sum := new(big.Rat)
	for j, n := range numbers {
		sum.Add(sum, new(big.Rat).Mul(big.NewRat(int64(n), 1), x[j]))
	}
	return sum
}

// corners are all feasible x in which the columns of the elements that are not 0
// are independent. If there is a feasible x, one of these is.
func corners(p impl.Program) [][]*big.Rat {
	var list [][]*big.Rat
	for _, columns := range subsets(p.Cols) {
		b := tableOf(p)
		independent := true
		for k, column := range columns {
			row := slices.IndexFunc(b.rows[min(k, p.Rows):], func(row []*big.Rat) bool { return row[column].Sign() != 0 })
			if independent = row >= 0; !independent {
				break
			}
			b.rows[k], b.rows[k+row] = b.rows[k+row], b.rows[k]
			b.pivot(k, column)
		}
		if x := b.corner(columns, p.Cols); independent && x != nil {
			list = append(list, x)
		}
	}
	return list
}

// corner is the x with these columns, or nil if a row does not hold or an
// element is negative.
func (b *bigTable) corner(columns []int, cols int) []*big.Rat {
	x := zeros(cols)
	for i, row := range b.rows {
		right := row[len(row)-1]
		if right.Sign() < 0 || i >= len(columns) && right.Sign() != 0 {
			return nil
		}
		if i < len(columns) {
			x[columns[i]] = right
		}
	}
	return x
}

// cornerAnswer compares all corners, and looks for a direction in which the
// objective grows without end: these are the corners of the program with the
// right sides 0 in which all elements add up to 1.
func cornerAnswer(p impl.Program) answer {
	all := corners(p)
	if len(all) == 0 {
		return answer{code: impl.LpNone}
	}
	directions := programOf(p.Rows+1, p.Cols, append(slices.Clone(p.A), repeated(p.Cols, 1)...), append(make([]int, p.Rows), 1), p.C)
	for _, x := range corners(directions) {
		if objectiveOf(p.C, x).Sign() > 0 {
			return answer{code: impl.LpOpen}
		}
	}
	best := slices.MinFunc(all, func(x, y []*big.Rat) int {
		if order := objectiveOf(p.C, y).Cmp(objectiveOf(p.C, x)); order != 0 {
			return order
		}
		return slices.CompareFunc(x, y, func(r, s *big.Rat) int { return r.Cmp(s) })
	})
	return answer{impl.LpOk, best, objectiveOf(p.C, best)}
}

func TestResultCodes(t *testing.T) {
	if impl.LpOk != 0 || impl.LpForm != 1 || impl.LpNone != 2 || impl.LpOpen != 3 {
		t.Errorf("the codes are %d, %d, %d and %d", impl.LpOk, impl.LpForm, impl.LpNone, impl.LpOpen)
	}
}

// answeredProgram is a program with its answer.
type answeredProgram struct {
	p    impl.Program
	want answer
}

func answeredPrograms() []answeredProgram {
	none, open := answer{code: impl.LpNone}, answer{code: impl.LpOpen}
	small := []int{1, 1, 0, 0, -1, 1}
	twice := []int{1, 1, 1, 2, 2, 2}
	return []answeredProgram{
		{programOf(2, 3, small, []int{2, 1}, []int{3, 1, 1}), optimum("7", "2", "0", "1")},
		{programOf(2, 3, small, []int{2, 1}, []int{-3, -1, -1}), optimum("-5", "0", "2", "3")},
		{programOf(2, 3, small, []int{2, 1}, []int{1, 0, 1}), optimum("3", "0", "2", "3")},
		{programOf(2, 3, small, []int{2, 1}, []int{0, 0, 0}), optimum("0", "0", "2", "3")},
		{programOf(2, 3, small, []int{2, -1}, []int{3, 1, 1}), optimum("4", "1", "1", "0")},
		{programOf(2, 3, small, []int{2, -3}, []int{3, 1, 1}), none},
		{programOf(2, 3, small, []int{-1, 1}, []int{3, 1, 1}), none},
		// Fractions that are in none of the numbers.
		{programOf(2, 2, []int{3, 5, 7, 2}, []int{4, 6}, []int{1, 1}), optimum("32/29", "22/29", "10/29")},
		{programOf(2, 4, []int{2, 3, 1, 0, 5, 1, 0, 1}, []int{7, 9}, []int{4, 3, 0, 0}), optimum("131/13", "20/13", "17/13", "0", "0")},
		// The difference of both may stay the same while they grow.
		{programOf(1, 2, []int{1, -1}, []int{0}, []int{1, 0}), open},
		{programOf(1, 2, []int{1, -1}, []int{0}, []int{1, -1}), optimum("0", "0", "0")},
		{programOf(1, 2, []int{1, -1}, []int{5}, []int{1, -1}), optimum("5", "5", "0")},
		{programOf(1, 2, []int{1, -1}, []int{-5}, []int{1, -1}), optimum("-5", "0", "5")},
		{programOf(1, 2, []int{1, -1}, []int{-5}, []int{-1, 1}), optimum("5", "0", "5")},
		{programOf(1, 2, []int{1, -1}, []int{-5}, []int{-1, 2}), open},
		{programOf(1, 2, []int{1, -1}, []int{-5}, []int{0, 0}), optimum("0", "0", "5")},
		// Rows that depend on others, and that contradict them.
		{programOf(2, 3, twice, []int{1, 2}, []int{0, 0, 0}), optimum("0", "0", "0", "1")},
		{programOf(2, 3, twice, []int{1, 2}, []int{1, 1, 0}), optimum("1", "0", "1", "0")},
		{programOf(2, 3, twice, []int{1, 2}, []int{7, 7, 7}), optimum("7", "0", "0", "1")},
		{programOf(2, 3, twice, []int{1, 3}, []int{0, 0, 0}), none},
		{programOf(2, 3, twice, []int{1, -2}, []int{1, 0, 0}), none},
		{programOf(2, 3, []int{1, 1, 1, -1, -1, -1}, []int{4, -4}, []int{0, 1, 1}), optimum("4", "0", "0", "4")},
		{programOf(3, 3, []int{1, 1, 0, 0, 1, 1, 1, 2, 1}, []int{1, 1, 2}, []int{0, 1, 0}), optimum("1", "0", "1", "0")},
		{programOf(3, 3, []int{1, 1, 0, 0, 1, 1, 1, 2, 1}, []int{1, 1, 2}, []int{0, -1, 0}), optimum("0", "1", "0", "1")},
		{programOf(3, 3, []int{1, 1, 0, 0, 1, 1, 1, 2, 1}, []int{1, 1, 3}, []int{0, 0, 0}), none},
		// Rows that are 0.
		{programOf(2, 2, []int{0, 0, 1, 2}, []int{0, 4}, []int{1, 2}), optimum("4", "0", "2")},
		{programOf(2, 2, []int{1, 2, 0, 0}, []int{4, 0}, []int{1, 1}), optimum("4", "4", "0")},
		{programOf(2, 2, []int{0, 0, 1, 2}, []int{1, 4}, []int{1, 2}), none},
		{programOf(2, 2, []int{0, 0, 1, 2}, []int{-1, 4}, []int{1, 2}), none},
		{programOf(1, 2, []int{0, 0}, []int{0}, []int{-1, 0}), optimum("0", "0", "0")},
		{programOf(1, 2, []int{0, 0}, []int{0}, []int{-1, 1}), open},
		// The greatest objective with all but the last element as small as possible.
		{programOf(1, 3, []int{1, 1, 1}, []int{-1}, []int{1, 1, 1}), none},
		{programOf(1, 3, []int{2, 3, 4}, []int{6}, []int{0, 0, 0}), optimum("0", "0", "0", "3/2")},
		{programOf(1, 3, []int{2, 3, 4}, []int{6}, []int{4, 6, 7}), optimum("12", "0", "2", "0")},
		{programOf(1, 4, []int{1, 1, -1, -1}, []int{3}, []int{0, 0, 0, 0}), optimum("0", "0", "3", "0", "0")},
		{programOf(1, 4, []int{1, 1, -1, -1}, []int{-3}, []int{0, 0, 0, 0}), optimum("0", "0", "0", "0", "3")},
		{programOf(1, 4, []int{1, 1, -1, -1}, []int{0}, []int{0, 0, 0, 0}), optimum("0", "0", "0", "0", "0")},
	}
}

func TestSolveProgramExamples(t *testing.T) {
	for _, c := range answeredPrograms() {
		mustAnswer(t, c.p, c.want)
		// The two ways without the functions agree as well.
		if got := bigAnswer(c.p); !isAnswer(resultOf(got), c.want) {
			t.Errorf("the answer for %v is %v", c.p, resultOf(got))
		}
		if got := cornerAnswer(c.p); !isAnswer(resultOf(got), c.want) {
			t.Errorf("the corners of %v lead to %v", c.p, resultOf(got))
		}
	}
}

// resultOf writes an answer as a result.
func resultOf(a answer) impl.Result {
	r := impl.Result{Code: a.code}
	if a.code != impl.LpOk {
		return r
	}
	for _, number := range a.x {
		r.X = append(r.X, ratOfBig(number))
	}
	r.Value = ratOfBig(a.value)
	return r
}

// TestSolveAllOfSigns has all programs of few rows and columns whose numbers are
// from -1 to 1.
func TestSolveAllOfSigns(t *testing.T) {
	counts := map[int]int{}
	for _, size := range [][2]int{{0, 0}, {0, 1}, {0, 2}, {0, 3}, {1, 0}, {1, 1}, {1, 2}, {2, 0}, {2, 1}, {2, 2}, {3, 0}, {3, 1}} {
		rows, cols := size[0], size[1]
		choices := 1
		for range rows*cols + rows + cols {
			choices *= 3
		}
		for k := range choices {
			numbers := signs(rows*cols+rows+cols, k)
			p := programOf(rows, cols, numbers[:rows*cols], numbers[rows*cols:rows*cols+rows], numbers[rows*cols+rows:])
			want := cornerAnswer(p)
			mustAnswer(t, p, want)
			counts[want.code]++
		}
	}
	if counts[impl.LpOk] < 1000 || counts[impl.LpNone] < 1000 || counts[impl.LpOpen] < 200 {
		t.Errorf("the codes occur so often: %v", counts)
	}
}

// TestSolveSmall compares with all corners of programs with up to four rows and
// five columns.
func TestSolveSmall(t *testing.T) {
	random := rand.New(rand.NewSource(51))
	counts := map[int]int{}
	for k := range 2500 {
		p := randomProgram(random, k%5, k/5%6, []int{1, 2, 3, 100}[k%4])
		want := cornerAnswer(p)
		mustAnswer(t, p, want)
		counts[want.code]++
	}
	if counts[impl.LpOk] < 300 || counts[impl.LpNone] < 300 || counts[impl.LpOpen] < 300 {
		t.Errorf("the codes occur so often: %v", counts)
	}
}

// bounded is a program with a further row, in which all elements add up to a
// number: then no objectives are open.
func bounded(random *rand.Rand, p impl.Program) impl.Program {
	return programOf(p.Rows+1, p.Cols, append(slices.Clone(p.A), repeated(p.Cols, 1)...), append(slices.Clone(p.B), random.Intn(100)+1), p.C)
}

// feasibleProgram has right sides for which an x with few elements is feasible,
// of which most are small if the program is.
func feasibleProgram(random *rand.Rand, rows, cols, most int) impl.Program {
	p := randomProgram(random, rows, cols, most)
	x := fewNumbers(random, cols, 0, 100/max(3*most, 1))
	for i := range p.B {
		p.B[i] = sumOf(rowNumbers(p, i), x)
	}
	return p
}

// dependentProgram has rows that are 0, that occur several times, also with the
// opposite sign, or that are sums of two others.
func dependentProgram(random *rand.Rand, rows, cols int) impl.Program {
	p := feasibleProgram(random, rows, cols, 4)
	for i := range rows {
		first, second := random.Intn(rows), random.Intn(rows)
		factors := [][2]int{{1, 0}, {-1, 0}, {0, 0}, {1, 1}, {1, -1}}[random.Intn(5)]
		sum := func(a, b int) (int, bool) {
			n := factors[0]*a + factors[1]*b
			return n, n >= -100 && n <= 100
		}
		row, fit := make([]int, cols), true
		for j := range row {
			n, ok := sum(rowNumbers(p, first)[j], rowNumbers(p, second)[j])
			row[j], fit = n, fit && ok
		}
		if right, ok := sum(p.B[first], p.B[second]); ok && fit && random.Intn(2) == 0 {
			copy(rowNumbers(p, i), row)
			p.B[i] = right
		}
	}
	return p
}

// TestSolveMiddle has programs of middle size of several kinds.
func TestSolveMiddle(t *testing.T) {
	random := rand.New(rand.NewSource(52))
	counts := map[int]int{}
	try := func(p impl.Program) {
		want := bigAnswer(p)
		mustAnswer(t, p, want)
		counts[want.code]++
	}
	for k := range 400 {
		rows, cols := random.Intn(9), random.Intn(14)
		most := []int{1, 3, 10, 100}[k%4]
		try(randomProgram(random, rows, cols, most))
		try(bounded(random, randomProgram(random, rows, cols, most)))
		try(feasibleProgram(random, rows, cols, most))
		try(bounded(random, withRight(feasibleProgram(random, rows, cols, most), 0)))
		try(dependentProgram(random, rows, cols))
		try(withObjective(bounded(random, dependentProgram(random, rows, cols)), fewNumbers(random, cols, -2, 2)))
		try(withObjective(feasibleProgram(random, rows, cols, most), make([]int, cols)))
	}
	if counts[impl.LpOk] < 500 || counts[impl.LpNone] < 300 || counts[impl.LpOpen] < 300 {
		t.Errorf("the codes occur so often: %v", counts)
	}
}

// withRight is the program with all right sides equal.
func withRight(p impl.Program, n int) impl.Program {
	other := clonedProgram(p)
	other.B = repeated(p.Rows, n)
	return other
}

// TestSolveAtLimits has programs with all rows and columns, whose numbers go to
// the limit.
func TestSolveAtLimits(t *testing.T) {
	random := rand.New(rand.NewSource(53))
	dense := func(rows int) impl.Program {
		p := constantProgram(rows, 40, 0)
		for _, list := range [][]int{p.A, p.B, p.C} {
			for i := range list {
				list[i] = random.Intn(201) - 100
			}
		}
		return p
	}
	counts := map[int]int{}
	for k := range 3 {
		p := dense(19)
		programs := []impl.Program{
			dense(20), bounded(random, p), bounded(random, withRight(p, 0)), withObjective(dense(20), make([]int, 40)), opposites(dense(20), 0),
			opposites(dense(20), -100), randomProgram(random, 20, 40, 1), feasibleProgram(random, 20, 40, 100), dependentProgram(random, 20, 40), hadamardProgram(k),
		}
		for _, p := range programs {
			want := bigAnswer(p)
			mustAnswer(t, p, want)
			counts[want.code]++
		}
	}
	if counts[impl.LpOk] < 10 || counts[impl.LpNone] == 0 || counts[impl.LpOpen] == 0 {
		t.Errorf("the codes occur so often: %v", counts)
	}
}

// opposites has the opposite of the first 20 columns as its other ones, so that
// the differences of both may have any sign, and one number as its objective.
func opposites(p impl.Program, objective int) impl.Program {
	other := withObjective(p, repeated(p.Cols, objective))
	for i := range p.Rows {
		row := rowNumbers(other, i)
		copy(row[p.Cols/2:], opposite(row[:p.Cols/2]))
	}
	return other
}

// hadamardProgram has the greatest determinants that are possible with its
// entries: any two of its rows, and of half its columns, are at right angles.
func hadamardProgram(kind int) impl.Program {
	p := constantProgram(20, 40, 100)
	square := func(n int) bool {
		return slices.ContainsFunc(firstIndices(18), func(k int) bool { return (k+1)*(k+1)%19 == n })
	}
	for i := 1; i < 20; i++ {
		for j := 1; j < 20; j++ {
			if i == j || !square((i-j+19)%19) {
				p.A[i*40+j] = -100
			}
		}
	}
	for i := range p.B {
		p.B[i] = 100 - 37*i%101*kind
	}
	return opposites(p, -100)
}

// TestSolveLargeNumbers has one feasible x only, whose fractions are quotients of
// large determinants.
func TestSolveLargeNumbers(t *testing.T) {
	random := rand.New(rand.NewSource(54))
	digits := 0
	for _, n := range []int{1, 2, 5, 10, 15, 20, 20} {
		p := constantProgram(n, n, 0)
		for i := range p.A {
			p.A[i] = 100 - random.Intn(2)*(199+random.Intn(2))
		}
		for i := range n {
			p.B[i], p.C[i] = random.Intn(201)-100, random.Intn(201)-100
		}
		b := tableOf(p)
		for k := range n {
			row := slices.IndexFunc(b.rows[k:], func(row []*big.Rat) bool { return row[k].Sign() != 0 })
			b.rows[k], b.rows[k+row] = b.rows[k+row], b.rows[k]
			b.pivot(k, k)
		}
		x := zeros(n)
		for j := range x {
			right := b.rows[j][2*n]
			digits = max(digits, len(right.Denom().String()))
			// With the opposite column, the element has the opposite sign.
			if x[j].Abs(right); right.Sign() < 0 {
				for i := range n {
					p.A[i*n+j] *= -1
				}
			}
		}
		mustAnswer(t, p, answer{impl.LpOk, x, objectiveOf(p.C, x)})
	}
	if digits < 27 {
		t.Errorf("the denominators have only %d digits", digits)
	}
}

// TestSolveAllSizes has programs of all sizes: with x and y that are made for
// them, the greatest objective is known, and that it is not open.
func TestSolveAllSizes(t *testing.T) {
	random := rand.New(rand.NewSource(55))
	eachProgramSize(func(rows, cols int) {
		s := randomSolved(random, rows, cols)
		for j, r := range s.x {
			// With a bound that is met wherever x is not 0, both are the best ones.
			if impl.RatSign(r) > 0 {
				sum, _ := bigWeighted(columnNumbers(s.Program, j), s.y).Float64()
				s.C[j] = int(sum)
			}
		}
		want, _ := impl.BoundAt(s.Program, s.y)
		got := impl.SolveProgram(s.Program)
		if got.Code != impl.LpOk || !sameRat(got.Value, want) || len(got.X) != cols || !bigFeasible(s.Program, got.X) || !isRat(want, bigWeighted(s.C, got.X)) {
			t.Errorf("SolveProgram(%s) is %s, and the bound %v", brief(s.Program), brief(got), want)
		}
		if slices.CompareFunc(got.X, s.x, impl.RatCmp) > 0 {
			t.Errorf("SolveProgram(%s) is %s, though %s is less", brief(s.Program), brief(got), brief(s.x))
		}
		if !impl.HasSolution(s.Program) {
			t.Errorf("HasSolution(%s) is false", brief(s.Program))
		}
	})
}

// TestSolveWithoutRows has no conditions, so that x is 0 or grows without end.
func TestSolveWithoutRows(t *testing.T) {
	for cols := range 41 {
		for _, empty := range [][]int{nil, {}, make([]int, 0, 5)} {
			want := optimum("0", slices.Repeat([]string{"0"}, cols)...)
			mustAnswer(t, programOf(0, cols, empty, empty, make([]int, cols)), want)
			mustAnswer(t, programOf(0, cols, empty, empty, repeated(cols, -100)), want)
			for j := range cols {
				p := programOf(0, cols, empty, empty, repeated(cols, -1))
				p.C[j] = 0
				mustAnswer(t, p, want)
				p.C[j] = 1
				mustAnswer(t, p, answer{code: impl.LpOpen})
			}
		}
	}
}

// TestSolveWithoutColumns has only one x, which is feasible if all right sides
// are 0.
func TestSolveWithoutColumns(t *testing.T) {
	for rows := range 21 {
		for _, empty := range [][]int{nil, {}, make([]int, 0, 5)} {
			mustAnswer(t, programOf(rows, 0, empty, make([]int, rows), empty), optimum("0"))
			for i := range rows {
				for _, n := range []int{1, -1, 100, -100} {
					p := programOf(rows, 0, empty, make([]int, rows), empty)
					p.B[i] = n
					mustAnswer(t, p, answer{code: impl.LpNone})
				}
			}
		}
	}
	mustAnswer(t, impl.Program{}, optimum("0"))
}

// TestSolveZeros has programs of all sizes in which only one kind of number is
// not 0.
func TestSolveZeros(t *testing.T) {
	eachProgramSize(func(rows, cols int) {
		if rows == 0 || cols == 0 {
			return
		}
		zero := optimum("0", slices.Repeat([]string{"0"}, cols)...)
		p := constantProgram(rows, cols, 0)
		mustAnswer(t, p, zero)
		p.B[rows-1] = 1
		mustAnswer(t, p, answer{code: impl.LpNone})
		// Nothing is open where nothing is feasible.
		p.C[cols-1] = 1
		mustAnswer(t, p, answer{code: impl.LpNone})
		p.B[rows-1] = 0
		mustAnswer(t, p, answer{code: impl.LpOpen})
		p.C[cols-1] = 0
		p.A = repeated(rows*cols, 1)
		mustAnswer(t, p, zero)
		p.A = repeated(rows*cols, -1)
		mustAnswer(t, p, zero)
		// The last element alone makes all rows hold.
		p.B = repeated(rows, -2)
		zero.x[cols-1].SetInt64(2)
		mustAnswer(t, p, zero)
	})
}

// TestSolveOneRow has programs of one row with positive numbers: of the columns
// with the greatest quotient of C and A, the last one has all.
func TestSolveOneRow(t *testing.T) {
	random := rand.New(rand.NewSource(56))
	for k := range 1200 {
		cols := k%40 + 1
		p := constantProgram(1, cols, random.Intn(4)-1)
		best := 0
		for j := range cols {
			p.A[j], p.C[j] = random.Intn(5)+1, random.Intn(9)-4
			if p.C[j]*p.A[best] >= p.C[best]*p.A[j] {
				best = j
			}
		}
		if p.B[0] < 0 {
			mustAnswer(t, p, answer{code: impl.LpNone})
			continue
		}
		x := zeros(cols)
		x[best] = big.NewRat(int64(p.B[0]), int64(p.A[best]))
		mustAnswer(t, p, answer{impl.LpOk, x, objectiveOf(p.C, x)})
	}
}

// transportProgram has a column for each pair of an origin and a goal, and a row
// for each origin and each goal, in which the columns of its pairs add up.
func transportProgram(origins, goals int) impl.Program {
	cols := origins * goals
	p := constantProgram(origins+goals, cols, 0)
	for j := range cols {
		p.A[j/goals*cols+j] = 1
		p.A[(origins+j%goals)*cols+j] = 1
	}
	for i := range p.B {
		if p.B[i] = goals; i >= origins {
			p.B[i] = origins
		}
	}
	return p
}

// TestSolveTransport has programs in which one row depends on the others, many
// sets of columns lead to the same corner, and, without an objective, the least
// x goes from the last goal to the first one.
func TestSolveTransport(t *testing.T) {
	random := rand.New(rand.NewSource(57))
	for _, size := range [][2]int{{1, 1}, {1, 5}, {2, 2}, {3, 3}, {3, 5}, {5, 3}, {4, 10}, {10, 4}, {6, 6}, {2, 18}, {18, 2}} {
		origins, goals := size[0], size[1]
		p := transportProgram(origins, goals)
		x := zeros(p.Cols)
		left := slices.Clone(p.B)
		for i := range origins {
			for k := goals - 1; k >= 0; k-- {
				n := min(left[i], left[origins+k])
				x[i*goals+k].SetInt64(int64(n))
				left[i] -= n
				left[origins+k] -= n
			}
		}
		for _, objective := range []int{0, 1, -100} {
			// All x have the same sum.
			want := answer{impl.LpOk, x, big.NewRat(int64(objective*p.Cols), 1)}
			mustAnswer(t, withObjective(p, repeated(p.Cols, objective)), want)
		}
		for range 3 {
			q := withObjective(p, numbersUpTo(random, p.Cols, 2))
			mustAnswer(t, q, bigAnswer(q))
		}
		p.B[0]++
		mustAnswer(t, p, answer{code: impl.LpNone})
	}
}

// inOrder is a program with its columns in another order.
func inOrder(p impl.Program, order []int) impl.Program {
	q := clonedProgram(p)
	for k, j := range order {
		q.C[k] = p.C[j]
		for i := range p.Rows {
			q.A[i*p.Cols+k] = p.A[i*p.Cols+j]
		}
	}
	return q
}

// TestSolveCycles has programs that are known for searches that return to the
// same columns for ever, with their columns in many orders.
func TestSolveCycles(t *testing.T) {
	random := rand.New(rand.NewSource(58))
	programs := []impl.Program{
		// Of Beale, with each row and the objective multiplied so that it has integers.
		programOf(3, 7, []int{1, -32, -4, 36, 4, 0, 0, 1, -24, -1, 6, 0, 2, 0, 0, 0, 1, 0, 0, 0, 1}, []int{0, 0, 1}, []int{3, -80, 2, -24, 0, 0, 0}),
		// Of Chvatal.
		programOf(3, 7, []int{1, -11, -5, 18, 2, 0, 0, 1, -3, -1, 2, 0, 2, 0, 1, 0, 0, 0, 0, 0, 1}, []int{0, 0, 1}, []int{10, -57, -9, -24, 0, 0, 0}),
		// Of Kuhn.
		programOf(3, 7, []int{-2, -9, 1, 9, 1, 0, 0, 1, 3, -1, -6, 0, 3, 0, 2, 3, -1, -12, 0, 0, 1}, []int{0, 0, 2}, []int{2, 3, -1, -12, 0, 0, 0}),
		// Of Marshall and Suurballe.
		programOf(2, 6, []int{1, -11, -5, 18, 2, 0, 1, -3, -1, 2, 0, 2}, []int{0, 0}, []int{10, -57, -9, -24, 0, 0}),
		programOf(2, 6, []int{2, -6, -1, 2, 5, 0, 1, -2, -9, 5, 0, 20}, []int{0, 0}, []int{4, -9, -17, 5, 0, 0}),
	}
	counts := map[int]int{}
	for _, p := range programs {
		for range 60 {
			q := inOrder(p, random.Perm(p.Cols))
			want := bigAnswer(q)
			mustAnswer(t, q, want)
			counts[want.code]++
		}
	}
	if counts[impl.LpOk] < 60 || counts[impl.LpOpen] < 60 {
		t.Errorf("the codes occur so often: %v", counts)
	}
}

// kleeMinty has n elements, each from a third of the one before it to 1 minus
// that third, and columns for the differences: a search may visit all of the
// many corners on the way to the one in which only the last element is not 0.
func kleeMinty(n int) (impl.Program, []int) {
	p := constantProgram(2*n, 3*n, 0)
	x := make([]int, 3*n)
	for i := range n {
		low, high := rowNumbers(p, 2*i), rowNumbers(p, 2*i+1)
		low[i], low[n+2*i] = 3, -1
		high[i], high[n+2*i+1] = 3, 1
		if i > 0 {
			low[i-1], high[i-1] = -1, 1
		}
		p.B[2*i+1], x[n+2*i+1] = 3, 3
	}
	p.C[n-1], x[n-1], x[n+2*n-2], x[n+2*n-1] = 1, 1, 3, 0
	return p, x
}

func TestSolveManyCorners(t *testing.T) {
	random := rand.New(rand.NewSource(59))
	for n := 1; n <= 10; n++ {
		p, x := kleeMinty(n)
		reversed := firstIndices(p.Cols)
		slices.Reverse(reversed)
		for _, order := range [][]int{firstIndices(p.Cols), reversed, random.Perm(p.Cols)} {
			want := zeros(p.Cols)
			for k, j := range order {
				want[k].SetInt64(int64(x[j]))
			}
			mustAnswer(t, inOrder(p, order), answer{impl.LpOk, want, big.NewRat(1, 1)})
		}
	}
}

// TestSolveInOtherOrders changes what does not matter: the order and the signs
// of rows, and rows that say the same once more.
func TestSolveInOtherOrders(t *testing.T) {
	random := rand.New(rand.NewSource(60))
	for k := range 300 {
		p := bounded(random, feasibleProgram(random, random.Intn(5), random.Intn(8), 3))
		want := impl.SolveProgram(p)
		q := clonedProgram(p)
		for i, from := range random.Perm(p.Rows) {
			row, right := slices.Clone(rowNumbers(p, from)), p.B[from]
			if random.Intn(2) == 0 {
				row, right = opposite(row), -right
			}
			copy(rowNumbers(q, i), row)
			q.B[i] = right
		}
		again := programOf(2*p.Rows, p.Cols, append(slices.Clone(p.A), q.A...), append(slices.Clone(p.B), q.B...), p.C)
		for _, other := range []impl.Program{q, again} {
			if got := impl.SolveProgram(other); !isAnswer(got, answerFrom(want)) {
				t.Errorf("the program %d is %v, and with other rows %v", k, want, got)
			}
		}
	}
}

// answerFrom is a result as an answer for others.
func answerFrom(r impl.Result) answer {
	if r.Code != impl.LpOk {
		return answer{code: r.Code}
	}
	return answer{r.Code, bigRats(r.X), toBigRat(r.Value)}
}

// TestLeastOf is about the same programs as TestSolveProgramExamples, with the
// least objective.
func TestLeastOf(t *testing.T) {
	cases := []answeredProgram{
		{programOf(2, 3, []int{1, 1, 0, 0, -1, 1}, []int{2, 1}, []int{3, 1, 1}), optimum("5", "0", "2", "3")},
		{programOf(2, 3, []int{1, 1, 0, 0, -1, 1}, []int{2, 1}, []int{0, 1, 0}), optimum("0", "2", "0", "1")},
		{programOf(2, 3, []int{1, 1, 0, 0, -1, 1}, []int{2, 1}, []int{0, 0, 0}), optimum("0", "0", "2", "3")},
		{programOf(2, 3, []int{1, 1, 0, 0, -1, 1}, []int{-2, 1}, []int{0, 1, 0}), answer{code: impl.LpNone}},
		{programOf(1, 2, []int{1, -1}, []int{0}, []int{1, 0}), optimum("0", "0", "0")},
		{programOf(1, 2, []int{1, -1}, []int{0}, []int{-1, 0}), answer{code: impl.LpOpen}},
		{programOf(1, 2, []int{1, -1}, []int{-7}, []int{-100, 100}), optimum("700", "0", "7")},
		{programOf(1, 3, []int{3, 3, 7}, []int{-1}, []int{100, -100, 0}), answer{code: impl.LpNone}},
		{programOf(1, 3, []int{3, 3, 7}, []int{1}, []int{100, -100, 0}), optimum("-100/3", "0", "1/3", "0")},
		{programOf(1, 3, []int{3, 3, 7}, []int{1}, []int{0, 0, 0}), optimum("0", "0", "0", "1/7")},
		{programOf(1, 3, []int{3, 3, 7}, []int{1}, []int{1, 0, 0}), optimum("0", "0", "0", "1/7")},
		{programOf(1, 3, []int{3, 3, 7}, []int{1}, []int{0, 0, 1}), optimum("0", "0", "1/3", "0")},
		{impl.Program{}, optimum("0")},
	}
	for _, c := range cases {
		if got := impl.LeastOf(c.p); !isAnswer(got, c.want) {
			t.Errorf("LeastOf(%v) is %v", c.p, got)
		}
	}
	random := rand.New(rand.NewSource(61))
	for range 300 {
		p := bounded(random, randomProgram(random, random.Intn(3), random.Intn(6), 3))
		least, greatest := impl.LeastOf(p), impl.SolveProgram(p)
		if least.Code != greatest.Code || impl.RatCmp(least.Value, greatest.Value) > 0 {
			t.Errorf("LeastOf(%v) is %v, and SolveProgram %v", p, least, greatest)
		}
	}
}

// eachWrongProgram calls try with programs that are not valid: by numbers of rows
// and columns, and, for these sizes, by the lengths of the lists and by each of
// the numbers.
func eachWrongProgram(sizes [][2]int, try func(p impl.Program)) {
	for _, rows := range append(wrongNumbers(20), 0, 1, 20) {
		for _, cols := range append(wrongNumbers(40), 0, 1, 40) {
			if rows >= 0 && rows <= 20 && cols >= 0 && cols <= 40 {
				continue
			}
			try(programOf(rows, cols, nil, nil, nil))
			// Numbers as long as their product says are made where they can be.
			if rows >= 0 && cols >= 0 && rows <= 1000 && cols <= 1000 {
				try(constantProgram(rows, cols, 0))
			}
		}
	}
	for _, size := range sizes {
		p := constantProgram(size[0], size[1], -1)
		for _, list := range []*[]int{&p.A, &p.B, &p.C} {
			kept := *list
			*list = append(slices.Clone(kept), 1)
			try(p)
			if len(kept) > 0 {
				*list = kept[:len(kept)-1]
				try(p)
				*list = nil
				try(p)
			}
			*list = kept
			for i := range kept {
				for _, n := range []int{101, -101, 1 << 32, math.MaxInt, math.MinInt, math.MinInt + 1} {
					kept[i] = n
					try(p)
				}
				kept[i] = -1
			}
		}
	}
}

// TestSolveWrongPrograms has programs that are not valid, and such that are with
// the same sizes.
func TestSolveWrongPrograms(t *testing.T) {
	sizes := [][2]int{{0, 0}, {1, 1}, {2, 3}, {1, 40}, {20, 1}, {20, 40}}
	eachWrongProgram(sizes, func(p impl.Program) { mustRefuseToSolve(t, p) })
	for _, size := range sizes {
		for _, n := range []int{1, -1} {
			p := constantProgram(size[0], size[1], n)
			mustAnswer(t, p, bigAnswer(p))
		}
	}
}

// solvedRats are all fractions that the functions return for a program.
func solvedRats(p impl.Program) [][]impl.Rat {
	greatest, least := impl.SolveProgram(p), impl.LeastOf(p)
	return [][]impl.Rat{greatest.X, {greatest.Value}, least.X, {least.Value}}
}

// TestSolveMemory checks that neither the program, with the room behind its
// lists, nor the other results change when results are spoiled.
func TestSolveMemory(t *testing.T) {
	random := rand.New(rand.NewSource(62))
	programs := []impl.Program{
		{}, constantProgram(0, 3, -1), constantProgram(3, 0, 0), constantProgram(1, 1, 1), constantProgram(1, 3, 0), constantProgram(3, 40, -100), constantProgram(1, 1, 101), constantProgram(21, 1, 1),
		transportProgram(6, 6), hadamardProgram(1), randomSolved(random, 20, 40).Program, randomProgram(random, 20, 40, 100),
	}
	for _, c := range answeredPrograms() {
		programs = append(programs, c.p)
	}
	for _, want := range programs {
		a, b, c := withRoom(want.A), withRoom(want.B), withRoom(want.C)
		p := programOf(want.Rows, want.Cols, a[:len(want.A)], b[:len(want.B)], c[:len(want.C)])
		if impl.HasSolution(p) != impl.HasSolution(clonedProgram(want)) {
			t.Errorf("HasSolution(%s) is %v", brief(want), impl.HasSolution(p))
		}
		mustBeApart(t, solvedRats(p), solvedRats(clonedProgram(want)))
		if !slices.Equal(a, withRoom(want.A)) || !slices.Equal(b, withRoom(want.B)) || !slices.Equal(c, withRoom(want.C)) {
			t.Errorf("the program %s was changed to %s", brief(want), brief(p))
		}
	}
	// One list as all numbers of a program.
	for n := 1; n <= 20; n++ {
		numbers := numbersUpTo(random, n*n, 100)
		p := programOf(n, n, numbers, numbers[:n], numbers[:n])
		want := clonedProgram(p)
		mustAnswer(t, p, answerFrom(impl.SolveProgram(want)))
		mustBeApart(t, solvedRats(p), solvedRats(want))
	}
}

// differentResults are results of which no two are the same.
func differentResults() []impl.Result {
	one, half := impl.RatFromInt(1), impl.RatOf(1, 2)
	results := []impl.Result{
		{}, {Code: 1}, {Code: 3}, {Code: -1}, {Code: 4}, {Code: math.MinInt}, {Code: math.MaxInt},
		{Value: one}, {Value: half}, {Value: impl.RatFromInt(0)}, {Value: impl.RatFromInt(-1)}, {Code: 2, Value: one},
		{X: []impl.Rat{one}}, {X: []impl.Rat{half}}, {X: []impl.Rat{{}}}, {X: []impl.Rat{one, one}}, {X: []impl.Rat{one, half}}, {X: []impl.Rat{half, one}},
		{X: []impl.Rat{one}, Value: one}, {X: []impl.Rat{one}, Value: half}, {X: []impl.Rat{half}, Value: one}, {Code: 1, X: []impl.Rat{one}, Value: one},
		{X: repeatedRat(24, one)}, {X: repeatedRat(25, one)}, {X: repeatedRat(40, one)}, {X: repeatedRat(41, one)}, {X: repeatedRat(1000, one)}, {X: replaced(repeatedRat(1000, one), 999, half)},
	}
	for _, bad := range notRats() {
		if !isZeroRat(bad) {
			results = append(results, impl.Result{Value: bad}, impl.Result{X: []impl.Rat{one, bad}}, impl.Result{X: []impl.Rat{bad}, Value: bad})
		}
	}
	return results
}

func clonedResult(r impl.Result) impl.Result {
	return impl.Result{Code: r.Code, X: clonedVector(r.X), Value: clonedRat(r.Value)}
}

func TestSameResults(t *testing.T) {
	results := differentResults()
	for i, a := range results {
		for k, b := range results {
			// Values that are not valid are compared by their fields.
			same := a.Code == b.Code && sameVector(a.X, b.X) && sameRat(a.Value, b.Value)
			if i == k && !same || i < 20 && k < 20 && i != k && same {
				t.Errorf("the results %d and %d do not show anything", i, k)
			}
			x, y := clonedResult(a), clonedResult(b)
			if impl.SameResults(x, y) != same {
				t.Errorf("SameResults(%s, %s) is %v", brief(a), brief(b), !same)
			}
			if x.Code != a.Code || !sameVector(x.X, a.X) || !sameRat(x.Value, a.Value) || !sameVector(y.X, b.X) || !sameRat(y.Value, b.Value) {
				t.Errorf("SameResults(%s, %s) changed its arguments", brief(a), brief(b))
			}
		}
	}
	// Lists without elements are equal, whether or not they are nil.
	empty := impl.Result{X: []impl.Rat{}, Value: impl.Rat{Num: impl.BigInt{Mag: []int{}}, Den: []int{}}}
	if !impl.SameResults(empty, impl.Result{}) || !impl.SameResults(impl.Result{}, empty) {
		t.Error("empty lists are not the same as none")
	}
}

// TestSameResultsAtEachIndex has one element that differs, or misses.
func TestSameResultsAtEachIndex(t *testing.T) {
	for _, n := range []int{1, 2, 24, 25, 40} {
		a := impl.Result{X: repeatedRat(n, impl.RatOf(-3, 7)), Value: impl.RatFromInt(5)}
		for i := range n {
			for _, text := range []string{"3/7", "-3/8", "-2/7", "0"} {
				b := clonedResult(a)
				b.X[i] = vectorOf(text)[0]
				if impl.SameResults(a, b) || impl.SameResults(b, a) {
					t.Errorf("with %s at %d of %d, the results are the same", text, i, n)
				}
			}
			b := clonedResult(a)
			b.X = slices.Delete(b.X, i, i+1)
			if impl.SameResults(a, b) || impl.SameResults(b, a) {
				t.Errorf("without one of %d elements, the results are the same", n)
			}
		}
		if !impl.SameResults(a, clonedResult(a)) {
			t.Errorf("results with %d elements are not the same", n)
		}
	}
}

// TestSameResultsOfSolved compares what SolveProgram returns for the same
// program and for others.
func TestSameResultsOfSolved(t *testing.T) {
	cases := answeredPrograms()
	for _, c := range cases {
		for _, d := range cases {
			first, second := impl.SolveProgram(c.p), impl.SolveProgram(d.p)
			same := isAnswer(first, d.want)
			if impl.SameResults(first, second) != same {
				t.Errorf("SameResults(%v, %v) is %v", first, second, !same)
			}
		}
	}
}
