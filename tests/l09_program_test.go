package tests

import (
	"fmt"
	"math"
	"math/big"
	"math/rand"
	"slices"
	"strings"
	"testing"

	"loop.example/g00830/impl"
)

// brief is the start of the text of a value, for messages about long lists. The
// text of a failing run stays readable also where a name is no UTF-8.
func brief(value any) string {
	text := fmt.Sprint(value)
	if len(text) > 300 {
		text = text[:300] + ".."
	}
	return strings.ToValidUTF8(text, "?")
}

// programOf is a program with these lists, whether or not they fit.
func programOf(rows, cols int, a, b, c []int) impl.Program {
	return impl.Program{Rows: rows, Cols: cols, A: a, B: b, C: c}
}

// constantProgram is the program whose numbers are all n.
func constantProgram(rows, cols, n int) impl.Program {
	return programOf(rows, cols, repeated(rows*cols, n), repeated(rows, n), repeated(cols, n))
}

// clonedProgram is the same program in other memory.
func clonedProgram(p impl.Program) impl.Program {
	return programOf(p.Rows, p.Cols, slices.Clone(p.A), slices.Clone(p.B), slices.Clone(p.C))
}

// rowNumbers and columnNumbers do not rely on ColumnOf.
func rowNumbers(p impl.Program, i int) []int { return p.A[i*p.Cols : (i+1)*p.Cols] }

func columnNumbers(p impl.Program, j int) []int {
	column := make([]int, p.Rows)
	for i := range column {
		column[i] = p.A[i*p.Cols+j]
	}
	return column
}

// ratsOf are the fractions of integers.
func ratsOf(list ...int) []impl.Rat {
	v := make([]impl.Rat, len(list))
	for i, n := range list {
		v[i] = ratOfBig(big.NewRat(int64(n), 1))
	}
	return v
}

// bigWeighted is a sum of products, computed without the program, or nil if a
// number is too large.
func bigWeighted(numbers []int, list []impl.Rat) *big.Rat {
	sum, ok := innerProduct(ratsOf(numbers...), list)
	if !ok {
		return nil
	}
	return sum
}

// bigFeasible and bigReaches expect arguments that fit each other.
func bigFeasible(p impl.Program, x []impl.Rat) bool {
	for _, r := range x {
		if toBigRat(r).Sign() < 0 {
			return false
		}
	}
	for i, n := range p.B {
		if sum := bigWeighted(rowNumbers(p, i), x); sum == nil || sum.Cmp(big.NewRat(int64(n), 1)) != 0 {
			return false
		}
	}
	return true
}

// bigReaches tells whether the sums of the columns are at least these numbers.
func bigReaches(p impl.Program, y []impl.Rat, least []int) bool {
	for j, n := range least {
		if sum := bigWeighted(columnNumbers(p, j), y); sum == nil || sum.Cmp(big.NewRat(int64(n), 1)) < 0 {
			return false
		}
	}
	return true
}

// programFacts are what the functions report about a program.
type programFacts struct{ feasible, dual, farkas bool }

// mustJudge compares what the functions return, for a valid program and lists
// of as many fractions as it has columns and rows, with sums without the program.
func mustJudge(t *testing.T, p impl.Program, x, y []impl.Rat) programFacts {
	t.Helper()
	if !impl.ProgramOk(p) {
		t.Errorf("ProgramOk(%s) is false", brief(p))
	}
	bound := bigWeighted(p.B, y)
	farkas := bound != nil && bound.Sign() < 0 && bigReaches(p, y, make([]int, p.Cols))
	want := programFacts{bigFeasible(p, x), bigReaches(p, y, p.C), farkas}
	got := programFacts{impl.IsFeasible(p, x), impl.IsDual(p, y), impl.IsFarkas(p, y)}
	if got != want {
		t.Errorf("the program %s with %s and %s is %v, not %v", brief(p), brief(x), brief(y), got, want)
	}
	if got, ok := impl.ObjectiveAt(p, x); !isNumberOf(got, ok, bigWeighted(p.C, x)) {
		t.Errorf("ObjectiveAt(%s, %s) is %v, %v", brief(p), brief(x), got, ok)
	}
	if got, ok := impl.BoundAt(p, y); !isNumberOf(got, ok, bound) {
		t.Errorf("BoundAt(%s, %s) is %v, %v", brief(p), brief(y), got, ok)
	}
	return want
}

// mustRefusePoint checks that x is refused, and mustRefuseWeights that y is.
func mustRefusePoint(t *testing.T, p impl.Program, x []impl.Rat) {
	t.Helper()
	if impl.IsFeasible(p, x) {
		t.Errorf("IsFeasible(%s, %s) is true", brief(p), brief(x))
	}
	if got, ok := impl.ObjectiveAt(p, x); ok || !isZeroRat(got) {
		t.Errorf("ObjectiveAt(%s, %s) is %v, %v", brief(p), brief(x), got, ok)
	}
}

func mustRefuseWeights(t *testing.T, p impl.Program, y []impl.Rat) {
	t.Helper()
	if impl.IsDual(p, y) || impl.IsFarkas(p, y) {
		t.Errorf("IsDual or IsFarkas of %s and %s is true", brief(p), brief(y))
	}
	if got, ok := impl.BoundAt(p, y); ok || !isZeroRat(got) {
		t.Errorf("BoundAt(%s, %s) is %v, %v", brief(p), brief(y), got, ok)
	}
}

// mustRefuseProgram checks that all functions refuse a program that is not
// valid, with lists of all lengths that it might be taken to have.
func mustRefuseProgram(t *testing.T, p impl.Program) {
	t.Helper()
	if impl.ProgramOk(p) {
		t.Errorf("ProgramOk(%s) is true", brief(p))
	}
	for _, n := range []int{0, 1, p.Rows, p.Cols, len(p.B), len(p.C)} {
		if n >= 0 && n <= 50 {
			for _, list := range [][]impl.Rat{repeatedRat(n, impl.RatFromInt(0)), repeatedRat(n, impl.RatFromInt(1)), repeatedRat(n, impl.RatFromInt(-1))} {
				mustRefusePoint(t, p, list)
				mustRefuseWeights(t, p, list)
			}
		}
	}
	for _, j := range []int{0, 1, p.Cols - 1, p.Cols, -1, math.MinInt, math.MaxInt} {
		if got := impl.ColumnOf(p, j); got != nil {
			t.Errorf("ColumnOf(%s, %d) is %v", brief(p), j, got)
		}
	}
}

// eachProgramSize calls try with all numbers of rows and columns.
func eachProgramSize(try func(rows, cols int)) {
	for rows := range 21 {
		for cols := range 41 {
			try(rows, cols)
		}
	}
}

// numbersUpTo are n integers from -most to most, of which many are 0.
func numbersUpTo(random *rand.Rand, n, most int) []int {
	list := make([]int, n)
	for i := range list {
		if random.Intn(3) > 0 {
			list[i] = random.Intn(2*most+1) - most
		}
	}
	return list
}

func randomProgram(random *rand.Rand, rows, cols, most int) impl.Program {
	return programOf(rows, cols, numbersUpTo(random, rows*cols, most), numbersUpTo(random, rows, most), numbersUpTo(random, cols, most))
}

// sumOf is a sum of products of integers.
func sumOf(a, b []int) int {
	sum := 0
	for i := range a {
		sum += a[i] * b[i]
	}
	return sum
}

// fewNumbers are n integers of which only three are not 0: sums of products
// with entries of up to 16 are entries.
func fewNumbers(random *rand.Rand, n, least, most int) []int {
	list := make([]int, n)
	for range min(n, 3) {
		list[random.Intn(n)] = least + random.Intn(most-least+1)
	}
	return list
}

// A solvedProgram has a feasible x and a dual y.
type solvedProgram struct {
	impl.Program
	x, y []impl.Rat
}

// randomSolved has right sides and an objective that x and y were made for, all
// rows of which hold and some columns of which have exactly their bound. Both
// may be halves.
func randomSolved(random *rand.Rand, rows, cols int) solvedProgram {
	p := randomProgram(random, rows, cols, 16)
	x, y, halves := fewNumbers(random, cols, 0, 2), fewNumbers(random, rows, -2, 2), random.Intn(2)+1
	for i := range p.A {
		p.A[i] -= p.A[i] % halves
	}
	for i := range p.B {
		p.B[i] = sumOf(rowNumbers(p, i), x) / halves
	}
	for j := range p.C {
		p.C[j] = max(-100, sumOf(columnNumbers(p, j), y)/halves-random.Intn(3)*random.Intn(60))
	}
	s := solvedProgram{p, ratsOf(x...), ratsOf(y...)}
	for _, list := range [][]impl.Rat{s.x, s.y} {
		for i, r := range list {
			list[i] = impl.RatDiv(r, impl.RatFromInt(halves))
		}
	}
	return s
}

func TestProgramLimits(t *testing.T) {
	if impl.MaxRows != 20 || impl.MaxColumns != 40 || impl.MaxEntry != 100 {
		t.Errorf("the limits are %d, %d and %d", impl.MaxRows, impl.MaxColumns, impl.MaxEntry)
	}
}

func TestProgramOk(t *testing.T) {
	random := rand.New(rand.NewSource(41))
	eachProgramSize(func(rows, cols int) {
		programs := []impl.Program{constantProgram(rows, cols, 0), constantProgram(rows, cols, 100), constantProgram(rows, cols, -100), randomProgram(random, rows, cols, 100)}
		for _, p := range programs {
			if !impl.ProgramOk(p) {
				t.Errorf("ProgramOk(%s) is false", brief(p))
			}
		}
	})
	if !impl.ProgramOk(impl.Program{}) {
		t.Error("the zero value is not valid")
	}
}

// wrongNumbers are no numbers of rows or columns, where most is the greatest
// one. The products of some with others are, or wrap around to such.
func wrongNumbers(most int) []int {
	return []int{-1, -2, -most, most + 1, most + 2, 2 * most, 1000, 1 << 32, -1 << 32, 1 << 62, 1 << 63 / 5, math.MinInt, math.MinInt + 1, math.MaxInt, math.MaxInt - 1}
}

// TestProgramWrongSizes has numbers of rows or columns beyond their limits,
// with lists as long as these numbers say, and with other ones.
func TestProgramWrongSizes(t *testing.T) {
	try := func(rows, cols int) {
		t.Helper()
		lengths := []int{0, 1, rows, cols, rows * cols}
		for _, a := range lengths {
			for _, b := range lengths[:4] {
				for _, c := range lengths[:4] {
					if longest := max(a, b, c); longest <= 2000 && min(a, b, c) >= 0 {
						mustRefuseProgram(t, programOf(rows, cols, make([]int, a), make([]int, b), make([]int, c)))
					}
				}
			}
		}
	}
	for _, rows := range wrongNumbers(20) {
		for _, cols := range append(wrongNumbers(40), 0, 1, 2, 20, 39, 40) {
			try(rows, cols)
		}
	}
	for _, cols := range wrongNumbers(40) {
		for _, rows := range []int{0, 1, 2, 19, 20} {
			try(rows, cols)
		}
	}
	// With as many rows as columns may be, and the other way round.
	try(40, 20)
	try(21, 40)
	try(20, 41)
}

func TestProgramWrongLengths(t *testing.T) {
	for _, size := range [][2]int{{0, 0}, {0, 1}, {1, 0}, {1, 1}, {2, 3}, {3, 2}, {20, 0}, {0, 40}, {20, 1}, {1, 40}, {20, 40}} {
		rows, cols := size[0], size[1]
		for _, n := range []int{0, 1, 2, rows - 1, rows, rows + 1, cols - 1, cols, cols + 1, rows + cols, rows*cols - 1, rows * cols, rows*cols + 1, 2 * rows * cols, 5000} {
			p := constantProgram(rows, cols, 1)
			list := repeated(max(n, 0), 1)
			if len(list) != rows*cols {
				mustRefuseProgram(t, programOf(rows, cols, list, p.B, p.C))
			}
			if len(list) != rows {
				mustRefuseProgram(t, programOf(rows, cols, p.A, list, p.C))
			}
			if len(list) != cols {
				mustRefuseProgram(t, programOf(rows, cols, p.A, p.B, list))
			}
		}
		if rows != cols {
			p := constantProgram(rows, cols, 1)
			mustRefuseProgram(t, programOf(rows, cols, p.A, p.C, p.B))
			mustRefuseProgram(t, programOf(cols, rows, p.A, p.B, p.C))
		}
	}
}

// TestProgramEntries puts numbers beyond MaxEntry, and at it, at each index of
// each list.
func TestProgramEntries(t *testing.T) {
	beyond := []int{101, -101, 102, -102, 200, 1000, 1 << 32, -1 << 32, 1<<32 + 1, math.MaxInt, math.MinInt, math.MinInt + 1}
	for _, size := range [][2]int{{1, 1}, {2, 3}, {1, 40}, {20, 1}, {20, 40}, {3, 0}, {0, 3}} {
		p := constantProgram(size[0], size[1], 0)
		for _, list := range [][]int{p.A, p.B, p.C} {
			for i := range list {
				for _, n := range []int{100, -100} {
					if list[i] = n; !impl.ProgramOk(p) {
						t.Errorf("ProgramOk(%s) is false", brief(p))
					}
				}
				for k, n := range beyond {
					// All functions take long for large programs.
					if list[i] = n; len(p.A) <= 40 || (i+k)%40 == 0 {
						mustRefuseProgram(t, p)
					} else if impl.ProgramOk(p) {
						t.Errorf("ProgramOk is true with %d at the index %d", n, i)
					}
				}
				list[i] = 0
			}
		}
	}
}

// TestProgramExamples is about the program of a small example: x0 + x1 = 2 and
// x2 - x1 = 1, with 3 x0 + x1 + x2 as great as possible.
func TestProgramExamples(t *testing.T) {
	p := programOf(2, 3, []int{1, 1, 0, 0, -1, 1}, []int{2, 1}, []int{3, 1, 1})
	points := []struct {
		x, objective string
		feasible     bool
	}{
		{"2 0 1", "7", true}, {"0 2 3", "5", true}, {"1 1 2", "6", true}, {"1/2 3/2 5/2", "11/2", true}, {"5/3 1/3 4/3", "20/3", true},
		{"3 -1 0", "8", false}, {"1 1 0", "4", false}, {"2 0 0", "6", false}, {"0 0 0", "0", false}, {"2 1 2", "9", false}, {"0 0 1", "1", false}, {"-1 3 4", "4", false}, {"2 0 3/2", "15/2", false},
	}
	for _, c := range points {
		x := vectorOf(strings.Fields(c.x)...)
		if got, ok := impl.ObjectiveAt(p, x); !ok || impl.FormatRat(got) != c.objective || impl.IsFeasible(p, x) != c.feasible {
			t.Errorf("the point %s has the objective %v, %v and is feasible: %v", c.x, got, ok, !c.feasible)
		}
	}
	weights := []struct {
		y, bound string
		dual     bool
	}{
		{"3 1", "7", true}, {"3 2", "8", true}, {"4 1", "9", true}, {"7/2 5/2", "19/2", true}, {"100 1", "201", true},
		{"2 0", "4", false}, {"3 0", "6", false}, {"2 1", "5", false}, {"3 5/2", "17/2", false}, {"29/10 1", "34/5", false}, {"-3 -1", "-7", false}, {"0 0", "0", false}, {"3 9/10", "69/10", false},
	}
	for _, c := range weights {
		y := vectorOf(strings.Fields(c.y)...)
		if got, ok := impl.BoundAt(p, y); !ok || impl.FormatRat(got) != c.bound || impl.IsDual(p, y) != c.dual || impl.IsFarkas(p, y) {
			t.Errorf("the weights %s have the bound %v, %v and are a dual: %v", c.y, got, ok, !c.dual)
		}
	}
	for j, want := range [][]int{{1, 0}, {1, -1}, {0, 1}} {
		if got := impl.ColumnOf(p, j); !slices.Equal(got, want) {
			t.Errorf("the column %d is %v", j, got)
		}
	}
}

// TestIsFarkasExamples is about x0 + x1 = -1, which no x satisfies, and others.
func TestIsFarkasExamples(t *testing.T) {
	cases := []struct {
		p    impl.Program
		y    string
		want bool
	}{
		{programOf(1, 2, []int{1, 1}, []int{-1}, []int{0, 0}), "1", true},
		{programOf(1, 2, []int{1, 1}, []int{-1}, []int{0, 0}), "1/1000", true},
		{programOf(1, 2, []int{1, 1}, []int{-1}, []int{0, 0}), "-1", false},
		{programOf(1, 2, []int{1, 1}, []int{-1}, []int{0, 0}), "0", false},
		// The objective does not matter.
		{programOf(1, 2, []int{1, 1}, []int{-1}, []int{100, 100}), "1", true},
		{programOf(1, 2, []int{1, 1}, []int{-1}, []int{-100, -100}), "1", true},
		{programOf(1, 2, []int{1, -1}, []int{-1}, []int{-100, -100}), "1", false},
		// A sum of 0 is not negative, but a bound of 0 proves nothing.
		{programOf(1, 2, []int{0, 0}, []int{-1}, []int{0, 0}), "1", true},
		{programOf(1, 2, []int{0, 0}, []int{1}, []int{0, 0}), "-1", true},
		{programOf(1, 2, []int{1, 1}, []int{0}, []int{0, 0}), "1", false},
		{programOf(2, 2, []int{1, 2, 1, 2}, []int{3, 4}, []int{0, 0}), "1 -1", true},
		{programOf(2, 2, []int{1, 2, 1, 2}, []int{3, 4}, []int{0, 0}), "-1 1", false},
		{programOf(2, 2, []int{1, 2, 1, 2}, []int{3, 3}, []int{0, 0}), "1 -1", false},
		{programOf(2, 2, []int{1, 2, 1, 2}, []int{3, 4}, []int{0, 0}), "1 -1/2", false},
		{programOf(2, 2, []int{1, 2, 1, 2}, []int{3, 4}, []int{0, 0}), "1 -9/10", true},
		{programOf(2, 2, []int{1, 2, 1, 3}, []int{3, 4}, []int{0, 0}), "1 -9/10", false},
		// Without columns, and without rows.
		{programOf(2, 0, nil, []int{3, -4}, nil), "1 1", true},
		{programOf(2, 0, nil, []int{3, -4}, nil), "-1 -1", false},
		{programOf(0, 2, nil, nil, []int{0, 0}), "", false},
		{impl.Program{}, "", false},
	}
	for i, c := range cases {
		if got := impl.IsFarkas(c.p, vectorOf(strings.Fields(c.y)...)); got != c.want {
			t.Errorf("IsFarkas of the program %d is %v", i, got)
		}
	}
}

// TestProgramsOfAllSizes has programs with x and y that solve them, with such
// that miss by a little, and with such that have nothing to do with them.
func TestProgramsOfAllSizes(t *testing.T) {
	random := rand.New(rand.NewSource(42))
	proofs := 0
	eachProgramSize(func(rows, cols int) {
		s := randomSolved(random, rows, cols)
		if got := mustJudge(t, s.Program, s.x, s.y); !got.feasible || !got.dual || got.farkas {
			t.Errorf("the program %s is not solved by %s and %s: %v", brief(s.Program), brief(s.x), brief(s.y), got)
		}
		x, y := clonedVector(s.x), clonedVector(s.y)
		if cols > 0 {
			x[random.Intn(cols)] = impl.RatOf(1, 3)
		}
		if rows > 0 {
			y[random.Intn(rows)] = impl.RatOf(-1, 3)
		}
		mustJudge(t, s.Program, x, y)
		p := randomProgram(random, rows, cols, 100)
		if mustJudge(t, p, smallMatrix(random, cols, 1).Cells, smallMatrix(random, rows, 1).Cells).farkas {
			proofs++
		}
	})
	if proofs == 0 {
		t.Error("there is no proof that no x is feasible")
	}
}

// TestProgramsOfSmallNumbers is about few rows and columns, where lists by
// chance are often feasible, duals or proofs.
func TestProgramsOfSmallNumbers(t *testing.T) {
	random := rand.New(rand.NewSource(43))
	counts := map[programFacts]int{}
	texts := []string{"0", "0", "1", "-1", "2", "1/2", "-1/2", "3"}
	for k := range 20000 {
		rows, cols := k%3, k/3%4
		p := randomProgram(random, rows, cols, 2)
		x, y := chosen(random, cols, 1, texts).Cells, chosen(random, rows, 1, texts).Cells
		counts[mustJudge(t, p, x, y)]++
	}
	for _, facts := range []programFacts{{}, {true, false, false}, {false, true, false}, {true, true, false}, {false, false, true}, {false, true, true}} {
		if counts[facts] < 50 {
			t.Errorf("there are %d programs that are %v", counts[facts], facts)
		}
	}
}

// TestProgramsOfSteep has fractions of which many products or sums are too
// large.
func TestProgramsOfSteep(t *testing.T) {
	random := rand.New(rand.NewSource(44))
	most := impl.FormatRat(ratio(plus(greatest(24)...), 1))
	texts := []string{"0", "0", "1", "-1", "1/2", most, "-" + most, powerText(23), "-" + powerText(23), "1/" + most, powerText(-23), powerText(12), powerText(-12)}
	for k := range 3000 {
		rows, cols := k%4, k/4%5
		p := randomProgram(random, rows, cols, []int{1, 2, 100}[k%3])
		mustJudge(t, p, chosen(random, cols, 1, texts).Cells, chosen(random, rows, 1, texts).Cells)
		mustJudge(t, p, randomVector(random, cols, k%24+1), randomVector(random, rows, k%24+1))
	}
}

// A weightedSum is the text of a sum of products, or the empty text if a
// product, or a sum on the way, is too large. No element of the list is
// negative, so that it may be an x.
type weightedSum struct {
	numbers []int
	list    string
	want    string
}

func weightedSums() []weightedSum {
	most := impl.FormatRat(ratio(plus(greatest(24)...), 1))
	half := impl.FormatRat(lowest(plus(greatest(24)...), []int{2}))
	// A hundredth of the greatest number, rounded down, and that plus 1.
	below := strings.Repeat("9", 24*9-2)
	above := "1" + strings.Repeat("0", 24*9-2)
	tiny := "1/" + most
	return []weightedSum{
		{[]int{-1, 1, 1}, "1 " + most + " 1", most},
		{[]int{1, 1, -1}, "1 " + most + " 1", ""},
		{[]int{1, -1, 1}, most + " 1 1", most},
		{[]int{1, 1, -1}, most + " 1 1", ""},
		{[]int{1, -1, 1}, most + " " + most + " 5", "5"},
		{[]int{1, 1, -1}, "5 " + most + " " + most, ""},
		{[]int{1, -1, 1}, "5 " + most + " " + most, "5"},
		{[]int{-1, 1, 1}, "5 " + most + " 5", most},
		{[]int{-1, -1, 1}, "5 " + most + " " + most, ""},
		{[]int{1, 1, -1}, "1/2 " + tiny + " 1/2", ""},
		{[]int{1, -1, 1}, "1/2 1/2 " + tiny, tiny},
		{[]int{2, -2, 1}, most + " " + most + " 7", ""},
		{[]int{0, 0, 1}, most + " " + most + " 7", "7"},
		{[]int{0, 3, 0}, most + " 5 " + tiny, "15"},
		{[]int{2}, half, most},
		{[]int{-2}, half, "-" + most},
		{[]int{3, -1}, half + " " + half, ""},
		{[]int{1, 2, -1}, half + " " + half + " " + half, ""},
		{[]int{100}, below, below + "00"},
		{[]int{-100}, below, "-" + below + "00"},
		{[]int{100}, above, ""},
		{[]int{-100}, above, ""},
		{[]int{100, -100}, above + " " + above, ""},
		{[]int{99, -99, 1}, below + " " + below + " 100", "100"},
	}
}

// TestSumOrder is about sums that are too large in one order only, as objectives
// and as bounds.
func TestSumOrder(t *testing.T) {
	for i, c := range weightedSums() {
		list := vectorOf(strings.Fields(c.list)...)
		n := len(list)
		for _, other := range []int{0, 1, 2, 20} {
			p := constantProgram(other, n, 0)
			p.C = c.numbers
			if got, ok := impl.ObjectiveAt(p, list); ok != (c.want != "") || impl.FormatRat(got) != c.want || !ok && !isZeroRat(got) {
				t.Errorf("the objective %d is %v, %v", i, got, ok)
			}
			mustJudge(t, p, list, repeatedRat(other, impl.RatFromInt(1)))
			p = constantProgram(n, other, 0)
			p.B = c.numbers
			got, ok := impl.BoundAt(p, list)
			if ok != (c.want != "") || impl.FormatRat(got) != c.want || !ok && !isZeroRat(got) {
				t.Errorf("the bound %d is %v, %v", i, got, ok)
			}
			// The columns are 0, so that only the bound decides.
			if impl.IsFarkas(p, list) != strings.HasPrefix(c.want, "-") {
				t.Errorf("IsFarkas of the bound %d is %v", i, !strings.HasPrefix(c.want, "-"))
			}
			mustJudge(t, p, repeatedRat(other, impl.RatFromInt(1)), list)
		}
	}
}

// TestSumOrderInRows has each sum in each row and each column, among others
// that are 0: it holds exactly if it is not too large, and the number is its own.
func TestSumOrderInRows(t *testing.T) {
	for i, c := range weightedSums() {
		list := vectorOf(strings.Fields(c.list)...)
		n := len(list)
		// Only a number of a program can be compared with.
		number, isInt := impl.ParseInt(c.want)
		for _, right := range []int{number, 0, 1, -1, 100, -100} {
			if right < -100 || right > 100 {
				continue
			}
			for at := range 4 {
				p := constantProgram(4, n, 0)
				copy(p.A[at*n:], c.numbers)
				p.B[at] = right
				if got := impl.IsFeasible(p, list); got != (isInt && number == right) {
					t.Errorf("the sum %d in the row %d is %d: %v", i, at, right, got)
				}
				mustJudge(t, p, list, repeatedRat(4, impl.RatFromInt(-1)))
				p = columnProgram(n, 4, at, c.numbers, right)
				if got := mustJudge(t, p, repeatedRat(4, impl.RatFromInt(1)), list); c.want == "" && got.dual {
					t.Errorf("the sum %d in the column %d is at least %d", i, at, right)
				}
			}
		}
	}
}

// columnProgram has these numbers in one column, with their objective, and 0
// elsewhere.
func columnProgram(rows, cols, at int, numbers []int, objective int) impl.Program {
	p := constantProgram(rows, cols, 0)
	for i, n := range numbers {
		p.A[i*cols+at] = n
	}
	p.C[at] = objective
	return p
}

// TestProofsOfLargeSums has bounds that are negative and sums of columns that
// are too large, at each index: neither a dual nor a proof may have these.
func TestProofsOfLargeSums(t *testing.T) {
	most := ratio(plus(greatest(24)...), 1)
	for _, cols := range []int{1, 2, 5, 40} {
		for at := range cols {
			for _, size := range []int{1, 2} {
				p := columnProgram(2, cols, at, []int{size, 0}, -100)
				p.B[1] = -1
				got := mustJudge(t, p, repeatedRat(cols, impl.RatFromInt(1)), []impl.Rat{most, impl.RatFromInt(1)})
				if got.dual != (size == 1) || got.farkas != (size == 1) {
					t.Errorf("with %d times the greatest number at %d of %d, the weights are %v", size, at, cols, got)
				}
			}
		}
	}
	for _, rows := range []int{1, 2, 5, 20} {
		for at := range rows {
			// The same for rows, whose right sides are 0 and so hold without x.
			p := constantProgram(rows, 2, 0)
			p.A[2*at], p.A[2*at+1] = 1, -1
			x := []impl.Rat{most, most}
			if !mustJudge(t, p, x, repeatedRat(rows, impl.RatFromInt(1))).feasible {
				t.Errorf("the row %d of %d does not hold", at, rows)
			}
			p.A[2*at], p.A[2*at+1] = 2, -2
			if mustJudge(t, p, x, repeatedRat(rows, impl.RatFromInt(1))).feasible {
				t.Errorf("the row %d of %d holds", at, rows)
			}
		}
	}
}

// TestFeasibleAtEachIndex misses one row, or has one negative element, at each
// index of programs of all sizes that otherwise have a feasible x.
func TestFeasibleAtEachIndex(t *testing.T) {
	random := rand.New(rand.NewSource(45))
	for _, size := range [][2]int{{1, 1}, {2, 3}, {7, 5}, {20, 2}, {3, 40}, {20, 40}, {1, 0}, {20, 0}, {0, 40}} {
		s := randomSolved(random, size[0], size[1])
		for i := range s.Rows {
			for _, by := range []int{1, -1} {
				p := clonedProgram(s.Program)
				if p.B[i] += by; impl.ProgramOk(p) && impl.IsFeasible(p, s.x) {
					t.Errorf("IsFeasible(%s, %s) is true", brief(p), brief(s.x))
				}
			}
		}
		// Nothing else depends on a column that is 0.
		for j := range s.Cols {
			p := clonedProgram(s.Program)
			for i := range p.Rows {
				p.A[i*p.Cols+j] = 0
			}
			x := replaced(s.x, j, impl.RatFromInt(0))
			for i := range p.B {
				sum, _ := bigWeighted(rowNumbers(p, i), x).Float64()
				p.B[i] = int(sum)
			}
			for _, text := range []string{"0", "1", "1/7", powerText(23), powerText(-23)} {
				if !mustJudge(t, p, replaced(x, j, vectorOf(text)[0]), s.y).feasible {
					t.Errorf("the element %d may not be %s", j, text)
				}
			}
			for _, text := range []string{"-1", "-1/7", "-" + powerText(23), "-" + powerText(-23)} {
				if mustJudge(t, p, replaced(x, j, vectorOf(text)[0]), s.y).feasible {
					t.Errorf("the element %d may be %s", j, text)
				}
			}
		}
	}
}

// TestDualAtEachIndex misses the objective of one column by 1, or the 0 of a
// proof, at each index.
func TestDualAtEachIndex(t *testing.T) {
	random := rand.New(rand.NewSource(46))
	for _, size := range [][2]int{{1, 1}, {2, 3}, {7, 5}, {20, 2}, {3, 40}, {20, 40}, {0, 40}} {
		s := randomSolved(random, size[0], size[1])
		x := repeatedRat(s.Cols, impl.RatFromInt(1))
		for j := range s.Cols {
			p := clonedProgram(s.Program)
			sum, _ := bigWeighted(columnNumbers(p, j), s.y).Float64()
			p.C[j] = int(sum)
			if !mustJudge(t, p, x, s.y).dual {
				t.Errorf("IsDual(%s, %s) is false", brief(p), brief(s.y))
			}
			if p.C[j] = int(sum) + 1; mustJudge(t, p, x, s.y).dual {
				t.Errorf("IsDual(%s, %s) is true", brief(p), brief(s.y))
			}
		}
		if s.Rows == 0 {
			continue
		}
		for j := range s.Cols {
			p := constantProgram(s.Rows, s.Cols, 0)
			p.B[s.Rows-1] = -1
			y := repeatedRat(s.Rows, impl.RatOf(1, 3))
			if !mustJudge(t, p, x, y).farkas {
				t.Errorf("IsFarkas(%s, %s) is false", brief(p), brief(y))
			}
			if p.A[j] = -1; mustJudge(t, p, x, y).farkas {
				t.Errorf("IsFarkas(%s, %s) is true", brief(p), brief(y))
			}
		}
	}
}

// allLists are all lists of n fractions of these.
func allLists(n int, from []impl.Rat) [][]impl.Rat {
	all := [][]impl.Rat{nil}
	for range n {
		var longer [][]impl.Rat
		for _, list := range all {
			for _, r := range from {
				longer = append(longer, append(clonedVector(list), clonedRat(r)))
			}
		}
		all = longer
	}
	return all
}

// signs are the list of n numbers from -1 to 1 with this index.
func signs(n, index int) []int {
	list := make([]int, n)
	for i := range list {
		list[i] = index%3 - 1
		index /= 3
	}
	return list
}

// TestDualsAndProofs ties all functions together, for all programs of up to two
// rows and columns with numbers from -1 to 1. The corners of what is feasible,
// and those of the duals, are quotients of determinants from -2 to 2. So either
// one of these few x is feasible, or one of the few y proves that there is none;
// and the greatest objective is the least bound, if there are both.
func TestDualsAndProofs(t *testing.T) {
	choices := func(n int) int { return len(allLists(n, ratsOf(-1, 0, 1))) }
	for rows := range 3 {
		for cols := range 3 {
			points, weights := allLists(cols, vectorOf("0", "1/2", "1", "2")), allLists(rows, vectorOf("-2", "-1", "-1/2", "0", "1/2", "1", "2"))
			for k := range choices(rows*cols + rows) {
				numbers := signs(rows*cols+rows, k)
				p := programOf(rows, cols, numbers[rows:], numbers[:rows], make([]int, cols))
				proof := slices.ContainsFunc(weights, func(y []impl.Rat) bool { return impl.IsFarkas(p, y) })
				feasible := slices.DeleteFunc(slices.Clone(points), func(x []impl.Rat) bool { return !impl.IsFeasible(p, x) })
				if proof == (len(feasible) > 0) {
					t.Errorf("the program %v has a proof and %v", p, feasible)
				}
				for c := range choices(cols) {
					p.C = signs(cols, c)
					mustMeet(t, p, feasible, weights)
				}
			}
		}
	}
}

// mustMeet checks that no objective of a feasible x is greater than a bound of a
// dual, and that one is equal if there are both.
func mustMeet(t *testing.T, p impl.Program, feasible, weights [][]impl.Rat) {
	t.Helper()
	var objectives, bounds []impl.Rat
	for _, x := range feasible {
		objective, ok := impl.ObjectiveAt(p, x)
		if objectives = append(objectives, objective); !ok {
			t.Errorf("ObjectiveAt(%v, %v) is refused", p, x)
		}
	}
	for _, y := range weights {
		if impl.IsDual(p, y) {
			bound, ok := impl.BoundAt(p, y)
			if bounds = append(bounds, bound); !ok {
				t.Errorf("BoundAt(%v, %v) is refused", p, y)
			}
		}
	}
	if len(objectives) == 0 || len(bounds) == 0 {
		return
	}
	greatest, least := slices.MaxFunc(objectives, impl.RatCmp), slices.MinFunc(bounds, impl.RatCmp)
	if !sameRat(greatest, least) {
		t.Errorf("the greatest objective of %v is %v, and the least bound %v", p, greatest, least)
	}
}

// TestBoundsOfSolved has larger programs, with an objective and a bound that
// were not made for each other.
func TestBoundsOfSolved(t *testing.T) {
	random := rand.New(rand.NewSource(47))
	equal, less := 0, 0
	for k := range 2000 {
		s := randomSolved(random, k%21, k%41)
		objective, ok := impl.ObjectiveAt(s.Program, s.x)
		bound, fine := impl.BoundAt(s.Program, s.y)
		order := impl.RatCmp(objective, bound)
		if !ok || !fine || order > 0 || !impl.IsFeasible(s.Program, s.x) || !impl.IsDual(s.Program, s.y) {
			t.Errorf("the objective of %s with %s and %s is %v, and the bound %v", brief(s.Program), brief(s.x), brief(s.y), objective, bound)
		}
		if order == 0 {
			equal++
		} else {
			less++
		}
		if impl.IsFarkas(s.Program, s.y) {
			t.Errorf("IsFarkas(%s, %s) is true", brief(s.Program), brief(s.y))
		}
	}
	if equal < 100 || less < 100 {
		t.Errorf("there are %d equal bounds, and %d other ones", equal, less)
	}
}

// TestProgramsWithoutRows has no conditions but that x is not negative, and no
// proof but the one of the objective 0.
func TestProgramsWithoutRows(t *testing.T) {
	zero := ratio(plus(), 1)
	for cols := range 41 {
		for _, empty := range [][]int{nil, {}, make([]int, 0, 5)} {
			for _, n := range []int{0, 1, -1} {
				p := programOf(0, cols, empty, empty, repeated(cols, n))
				for _, y := range [][]impl.Rat{nil, {}} {
					x := repeatedRat(cols, impl.RatOf(1, 2))
					if got := mustJudge(t, p, x, y); !got.feasible || got.farkas || got.dual != (n <= 0 || cols == 0) {
						t.Errorf("the program %v is %v", p, got)
					}
					if got, ok := impl.BoundAt(p, y); !ok || !sameRat(got, zero) {
						t.Errorf("BoundAt(%v, %v) is %v, %v", p, y, got, ok)
					}
				}
				for j := range cols {
					if got := impl.ColumnOf(p, j); len(got) > 0 {
						t.Errorf("ColumnOf(%v, %d) is %v", p, j, got)
					}
				}
			}
		}
	}
}

// TestProgramsWithoutColumns has only one x, which is feasible if all right
// sides are 0.
func TestProgramsWithoutColumns(t *testing.T) {
	zero := ratio(plus(), 1)
	for rows := range 21 {
		for _, empty := range [][]int{nil, {}, make([]int, 0, 5)} {
			for _, n := range []int{0, 1, -1} {
				p := programOf(rows, 0, empty, repeated(rows, n), empty)
				for _, x := range [][]impl.Rat{nil, {}} {
					for _, sign := range []int{1, -1, 0} {
						got := mustJudge(t, p, x, repeatedRat(rows, impl.RatFromInt(sign)))
						if want := (programFacts{n == 0 || rows == 0, true, rows > 0 && n*sign < 0}); got != want {
							t.Errorf("the program %v is %v, not %v", p, got, want)
						}
					}
					if got, ok := impl.ObjectiveAt(p, x); !ok || !sameRat(got, zero) {
						t.Errorf("ObjectiveAt(%v, %v) is %v, %v", p, x, got, ok)
					}
				}
				for _, j := range []int{0, 1, -1, math.MinInt, math.MaxInt} {
					if got := impl.ColumnOf(p, j); got != nil {
						t.Errorf("ColumnOf(%v, %d) is %v", p, j, got)
					}
				}
			}
		}
	}
}

// TestListLengths has x and y of all other lengths, the ones of the other list
// included.
func TestListLengths(t *testing.T) {
	for _, size := range [][2]int{{0, 0}, {0, 1}, {1, 0}, {1, 1}, {1, 2}, {2, 1}, {20, 0}, {0, 40}, {20, 40}, {20, 20}, {3, 24}, {3, 25}} {
		p := constantProgram(size[0], size[1], 0)
		wrong := constantProgram(size[0], size[1], -1)
		for _, n := range append(lengthsAround(), 38, 39, 40, 41, 42, 800) {
			for _, list := range [][]impl.Rat{repeatedRat(n, impl.RatFromInt(0)), repeatedRat(n, impl.RatFromInt(1))} {
				if n != p.Cols {
					mustRefusePoint(t, p, list)
				} else if _, ok := impl.ObjectiveAt(p, list); !ok || !impl.IsFeasible(p, list) {
					t.Errorf("a list of %d elements is refused as x", n)
				}
				if n != p.Rows {
					mustRefuseWeights(t, p, list)
					mustRefuseWeights(t, wrong, list)
				} else if _, ok := impl.BoundAt(p, list); !ok || !impl.IsDual(p, list) {
					t.Errorf("a list of %d elements is refused as y", n)
				}
			}
		}
	}
}

// TestListsOfInvalid puts each value that is not valid at each index, where all
// numbers of the program are 0, and where they are not.
func TestListsOfInvalid(t *testing.T) {
	for k, bad := range notRats() {
		for _, size := range [][2]int{{1, 1}, {2, 3}, {0, 1}, {0, 40}, {1, 0}, {20, 0}, {20, 40}} {
			for _, n := range []int{0, -1} {
				p := constantProgram(size[0], size[1], 0)
				p.B = repeated(p.Rows, n)
				p.C = repeated(p.Cols, n)
				for i := range p.Cols {
					if p.Cols < 40 || (i+k)%8 == 0 {
						mustRefusePoint(t, p, replaced(repeatedRat(p.Cols, impl.RatFromInt(k%3)), i, bad))
					}
				}
				for i := range p.Rows {
					if p.Rows < 20 || (i+k)%8 == 0 {
						mustRefuseWeights(t, p, replaced(repeatedRat(p.Rows, impl.RatFromInt(k%3)), i, bad))
					}
				}
			}
		}
		mustRefusePoint(t, impl.Program{}, []impl.Rat{bad})
		mustRefuseWeights(t, impl.Program{}, []impl.Rat{bad})
	}
}

// TestColumnOf has programs of all sizes, whose numbers show their places.
func TestColumnOf(t *testing.T) {
	eachProgramSize(func(rows, cols int) {
		p := constantProgram(rows, cols, 7)
		for i := range p.A {
			p.A[i] = i%201 - 100
		}
		for j := range cols {
			if got := impl.ColumnOf(p, j); !slices.Equal(got, columnNumbers(p, j)) {
				t.Errorf("the column %d of %d rows and %d columns is %v", j, rows, cols, got)
			}
		}
		for _, j := range []int{-1, -2, -cols - 1, cols, cols + 1, rows * cols, rows*cols + 1, 1000, 1 << 32, math.MinInt, math.MinInt + 1, math.MaxInt, math.MaxInt - 1} {
			if j >= 0 && j < cols {
				continue
			}
			if got := impl.ColumnOf(p, j); got != nil {
				t.Errorf("ColumnOf of %d rows and %d columns at %d is %v", rows, cols, j, got)
			}
		}
	})
}

// programResults are all fractions, and the columns as denominators, that the
// functions return.
func programResults(p impl.Program, x, y []impl.Rat) [][]impl.Rat {
	objective, _ := impl.ObjectiveAt(p, x)
	bound, _ := impl.BoundAt(p, y)
	first, last := impl.ColumnOf(p, 0), impl.ColumnOf(p, p.Cols-1)
	return [][]impl.Rat{{objective}, {bound}, {{Den: first}}, {{Den: last}}, {{Den: impl.ColumnOf(p, 0)}}}
}

// reports are what the functions report that return no more.
func reports(p impl.Program, x, y []impl.Rat) [4]bool {
	return [4]bool{impl.ProgramOk(p), impl.IsFeasible(p, x), impl.IsDual(p, y), impl.IsFarkas(p, y)}
}

// TestProgramMemory checks that neither the arguments, with the room behind
// them, nor the other results change when results are spoiled.
func TestProgramMemory(t *testing.T) {
	random := rand.New(rand.NewSource(48))
	programs := []impl.Program{
		{}, constantProgram(0, 3, 1), constantProgram(3, 0, -1), constantProgram(1, 1, 1), constantProgram(1, 3, 0), constantProgram(3, 1, -100), constantProgram(1, 1, 101), constantProgram(21, 1, 1),
		programOf(2, 3, []int{1, 1, 0, 0, -1, 1}, []int{2, 1}, []int{3, 1, 1}), programOf(-1, 2, nil, nil, []int{1, 2}), programOf(2, 2, []int{1, 2, 3}, []int{1, 2}, []int{1, 2}),
		randomSolved(random, 20, 40).Program, randomProgram(random, 20, 40, 100), randomProgram(random, 5, 24, 100),
	}
	for _, want := range programs {
		a, b, c := withRoom(want.A), withRoom(want.B), withRoom(want.C)
		p := programOf(want.Rows, want.Cols, a[:len(want.A)], b[:len(want.B)], c[:len(want.C)])
		for _, first := range programLists(max(want.Cols, 0)) {
			for _, second := range programLists(max(want.Rows, 0)) {
				x, y := vectorWithRoom(first), vectorWithRoom(second)
				if got := reports(p, x, y); got != reports(clonedProgram(want), clonedVector(first), clonedVector(second)) {
					t.Errorf("the reports on %s are %v", brief(want), got)
				}
				mustBeApart(t, programResults(p, x, y), programResults(clonedProgram(want), clonedVector(first), clonedVector(second)))
				if !slices.Equal(a, withRoom(want.A)) || !slices.Equal(b, withRoom(want.B)) || !slices.Equal(c, withRoom(want.C)) || !roomIsKept(x, first) || !roomIsKept(y, second) {
					t.Errorf("the arguments %s, %s and %s were changed to %s, %s and %s", brief(want), brief(first), brief(second), brief(p), brief(x), brief(y))
				}
			}
		}
	}
}

// programLists are lists of n equal elements, also of the greatest ones.
func programLists(n int) [][]impl.Rat {
	return append(uniformLists(n), repeatedRat(n, ratio(plus(greatest(24)...), power(23)...)))
}

// TestProgramSameArgument gives one list as x and y, one list as all numbers of
// a program, and elements whose lists are one list.
func TestProgramSameArgument(t *testing.T) {
	unit := []int{1}
	one := impl.Rat{Num: impl.BigInt{Mag: unit}, Den: unit}
	for _, n := range []int{1, 2, 20} {
		for _, list := range [][]impl.Rat{slices.Repeat([]impl.Rat{one}, n), slices.Repeat([]impl.Rat{impl.RatOf(-5, 2)}, n)} {
			numbers := make([]int, n*n)
			for i := range numbers {
				numbers[i] = i%7 - 3
			}
			p := programOf(n, n, numbers, numbers[:n], numbers[:n])
			want, x := clonedProgram(p), clonedVector(list)
			if got := reports(p, list, list); got != reports(clonedProgram(want), clonedVector(x), clonedVector(x)) {
				t.Errorf("the reports on %s are %v", brief(want), got)
			}
			mustBeApart(t, programResults(p, list, list), programResults(clonedProgram(want), clonedVector(x), clonedVector(x)))
			if !slices.Equal(numbers, want.A) || !sameVector(list, x) {
				t.Errorf("the arguments %s and %s were changed to %s and %s", brief(want), brief(x), brief(p), brief(list))
			}
		}
	}
}
