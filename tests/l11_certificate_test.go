package tests

import (
	"math"
	"math/big"
	"math/rand"
	"slices"
	"strings"
	"testing"

	"loop.example/g00830/impl"
)

// searchCell is the element of A of both programs in the row i and the column k.
// Only the first one of them has a row for the right sides, after the others.
func searchCell(p impl.Program, i, k int) int {
	numbers := p.B
	if i < p.Cols {
		numbers = columnNumbers(p, i)
	}
	switch {
	case k < p.Rows:
		return numbers[k]
	case k < 2*p.Rows:
		return -numbers[k-p.Rows]
	case k-2*p.Rows == i:
		return -1
	}
	return 0
}

// searchProgram has these many rows, and 0 for all other numbers.
func searchProgram(p impl.Program, rows int) impl.Program {
	search := constantProgram(rows, 2*p.Rows+p.Cols, 0)
	for i := range rows {
		for k := range search.Cols {
			search.A[i*search.Cols+k] = searchCell(p, i, k)
		}
	}
	return search
}

// proofSearch and dualSearch are what FarkasProgram and DualProgram are of a
// small program.
func proofSearch(p impl.Program) impl.Program {
	search := searchProgram(p, p.Cols+1)
	search.B[p.Cols] = -1
	return search
}

func dualSearch(p impl.Program) impl.Program {
	search := searchProgram(p, p.Cols)
	copy(search.B, p.C)
	for i, n := range p.B {
		search.C[i], search.C[p.Rows+i] = -n, n
	}
	return search
}

// bigWeights are the weights that a search finds, by math/big.
func bigWeights(p, search impl.Program) ([]*big.Rat, bool) {
	found := bigAnswer(search)
	if found.code != impl.LpOk {
		return nil, false
	}
	weights := zeros(p.Rows)
	for i := range weights {
		weights[i].Sub(found.x[i], found.x[p.Rows+i])
	}
	return weights, true
}

// mustCertify checks what all functions return for a valid program that is small
// enough, and that it is left as it is. It returns the answer.
func mustCertify(t *testing.T, p impl.Program) answer {
	t.Helper()
	kept := clonedProgram(p)
	mustSearch(t, p)
	proof, proved := bigWeights(p, proofSearch(p))
	if got, ok := impl.FarkasOf(p); ok != proved || !slices.EqualFunc(got, proof, isRat) {
		t.Errorf("FarkasOf(%s) is %s, %v, not %s, %v", brief(p), brief(got), ok, brief(proof), proved)
	}
	weights, bounded := bigWeights(p, dualSearch(p))
	if got, ok := impl.DualOf(p); ok != bounded || !slices.EqualFunc(got, weights, isRat) {
		t.Errorf("DualOf(%s) is %s, %v, not %s, %v", brief(p), brief(got), ok, brief(weights), bounded)
	}
	want := bigAnswer(p)
	mustProve(t, p, resultOf(want))
	if !sameProgram(p, kept) {
		t.Errorf("the program %s was changed to %s", brief(kept), brief(p))
	}
	return want
}

func mustSearch(t *testing.T, p impl.Program) {
	t.Helper()
	if got, want := impl.FarkasProgram(p), proofSearch(p); !sameProgram(got, want) || !impl.ProgramOk(got) {
		t.Errorf("FarkasProgram(%s) is %s, not %s", brief(p), brief(got), brief(want))
	}
	if got, want := impl.DualProgram(p), dualSearch(p); !sameProgram(got, want) || !impl.ProgramOk(got) {
		t.Errorf("DualProgram(%s) is %s, not %s", brief(p), brief(got), brief(want))
	}
}

// mustProve checks that the result of a program has a certificate of its kind,
// and none of the other kind, and that it proves this result only.
func mustProve(t *testing.T, p impl.Program, r impl.Result) {
	t.Helper()
	proof, proved := impl.FarkasOf(p)
	weights, bounded := impl.DualOf(p)
	if proved != (r.Code == impl.LpNone) || bounded != (r.Code == impl.LpOk) {
		t.Errorf("the program %s with the code %d has a proof: %v, and a dual: %v", brief(p), r.Code, proved, bounded)
	}
	if proved && !isRat(ratio(minus(1), 1), bigWeighted(p.B, proof)) {
		t.Errorf("the proof %s of %s has another bound than -1", brief(proof), brief(p))
	}
	if got := impl.CheckResult(p, r, proof); got != proved && (!bounded || p.Rows > 0) {
		t.Errorf("CheckResult(%s, %s, %s) is %v", brief(p), brief(r), brief(proof), got)
	}
	if got := impl.CheckResult(p, r, weights); got != bounded {
		t.Errorf("CheckResult(%s, %s, %s) is %v", brief(p), brief(r), brief(weights), got)
	}
	for _, code := range []int{impl.LpOk, impl.LpForm, impl.LpNone, impl.LpOpen} {
		other := clonedResult(r)
		other.Code = code
		if code != r.Code && (impl.CheckResult(p, other, proof) || impl.CheckResult(p, other, weights)) {
			t.Errorf("CheckResult(%s, %s) is true", brief(p), brief(other))
		}
	}
}

// mustNotCertify is about programs that are not valid, or too large.
func mustNotCertify(t *testing.T, p impl.Program) {
	t.Helper()
	if got := impl.FarkasProgram(p); !isZeroProgram(got) {
		t.Errorf("FarkasProgram(%s) is %s", brief(p), brief(got))
	}
	if got := impl.DualProgram(p); !isZeroProgram(got) {
		t.Errorf("DualProgram(%s) is %s", brief(p), brief(got))
	}
	if got, ok := impl.FarkasOf(p); ok || len(got) > 0 {
		t.Errorf("FarkasOf(%s) is %s, %v", brief(p), brief(got), ok)
	}
	if got, ok := impl.DualOf(p); ok || len(got) > 0 {
		t.Errorf("DualOf(%s) is %s, %v", brief(p), brief(got), ok)
	}
}

func isZeroProgram(p impl.Program) bool { return sameProgram(p, impl.Program{}) }

// eachSmallSize calls try with all numbers of rows and columns of programs that
// may have certificates.
func eachSmallSize(try func(rows, cols int)) {
	for rows := range 10 {
		for cols := range 17 {
			try(rows, cols)
		}
	}
}

func TestMaxCertified(t *testing.T) {
	if impl.MaxCertified != 9 {
		t.Errorf("the limit is %d", impl.MaxCertified)
	}
}

// TestSearchExamples has programs that are written out.
func TestSearchExamples(t *testing.T) {
	cases := []struct{ p, proof, dual impl.Program }{
		{
			programOf(2, 3, []int{1, 2, 0, 0, -1, 4}, []int{7, -5}, []int{3, 1, -6}),
			programOf(4, 7, []int{
				1, 0, -1, 0, -1, 0, 0,
				2, -1, -2, 1, 0, -1, 0,
				0, 4, 0, -4, 0, 0, -1,
				7, -5, -7, 5, 0, 0, 0,
			}, []int{0, 0, 0, -1}, make([]int, 7)),
			programOf(3, 7, []int{
				1, 0, -1, 0, -1, 0, 0,
				2, -1, -2, 1, 0, -1, 0,
				0, 4, 0, -4, 0, 0, -1,
			}, []int{3, 1, -6}, []int{-7, 5, 7, -5, 0, 0, 0}),
		},
		{
			programOf(1, 1, []int{100}, []int{-100}, []int{-99}),
			programOf(2, 3, []int{100, -100, -1, -100, 100, 0}, []int{0, -1}, make([]int, 3)),
			programOf(1, 3, []int{100, -100, -1}, []int{-99}, []int{100, -100, 0}),
		},
		// Without rows, without columns, and without both.
		{
			programOf(0, 2, nil, nil, []int{3, -4}),
			programOf(3, 2, []int{-1, 0, 0, -1, 0, 0}, []int{0, 0, -1}, make([]int, 2)),
			programOf(2, 2, []int{-1, 0, 0, -1}, []int{3, -4}, make([]int, 2)),
		},
		{
			programOf(2, 0, nil, []int{3, -4}, nil),
			programOf(1, 4, []int{3, -4, -3, 4}, []int{-1}, make([]int, 4)),
			programOf(0, 4, nil, nil, []int{-3, 4, 3, -4}),
		},
		{impl.Program{}, programOf(1, 0, nil, []int{-1}, nil), impl.Program{}},
	}
	for _, c := range cases {
		if got := impl.FarkasProgram(c.p); !sameProgram(got, c.proof) {
			t.Errorf("FarkasProgram(%v) is %v", c.p, got)
		}
		if got := impl.DualProgram(c.p); !sameProgram(got, c.dual) {
			t.Errorf("DualProgram(%v) is %v", c.p, got)
		}
		// What the other tests compare with is the same.
		if !sameProgram(proofSearch(c.p), c.proof) || !sameProgram(dualSearch(c.p), c.dual) {
			t.Errorf("the searches of %v are %v and %v", c.p, proofSearch(c.p), dualSearch(c.p))
		}
	}
}

// TestSearchOfAllSizes has programs with numbers that show their places, with
// random ones, and with those at the limits.
func TestSearchOfAllSizes(t *testing.T) {
	random := rand.New(rand.NewSource(71))
	eachSmallSize(func(rows, cols int) {
		p := constantProgram(rows, cols, 0)
		for i := range p.A {
			p.A[i] = i%201 - 100
		}
		for i := range p.B {
			p.B[i] = 40 + i
		}
		for j := range p.C {
			p.C[j] = 60 + j
		}
		mustSearch(t, p)
		for _, most := range []int{1, 100} {
			mustSearch(t, randomProgram(random, rows, cols, most))
			mustSearch(t, constantProgram(rows, cols, most))
			mustSearch(t, constantProgram(rows, cols, -most))
		}
	})
}

// TestSearchSolutions has y that are proofs or duals, or miss that by a little:
// as differences of not negative elements, with the elements s that remain, they
// are solutions exactly if they are proofs with the bound -1, or duals, and the
// objective is the negative of the bound.
func TestSearchSolutions(t *testing.T) {
	random := rand.New(rand.NewSource(72))
	texts := []string{"0", "0", "1", "-1", "2", "1/2", "-1/2", "3"}
	proofs, duals := 0, 0
	for k := range 6000 {
		rows, cols := k%3, k/3%4
		p := randomProgram(random, rows, cols, 2)
		y := chosen(random, rows, 1, texts).Cells
		bound, _ := impl.BoundAt(p, y)
		proof := impl.IsFarkas(p, y) && sameRat(bound, impl.RatFromInt(-1))
		if impl.IsFeasible(impl.FarkasProgram(p), splitWeights(p, y, make([]int, cols))) != proof {
			t.Errorf("%v is a solution of FarkasProgram(%v): %v", y, p, !proof)
		}
		x := splitWeights(p, y, p.C)
		dual, search := impl.IsDual(p, y), impl.DualProgram(p)
		if impl.IsFeasible(search, x) != dual {
			t.Errorf("%v is a solution of DualProgram(%v): %v", y, p, !dual)
		}
		if got, ok := impl.ObjectiveAt(search, x); !ok || !sameRat(got, impl.RatNeg(bound)) {
			t.Errorf("%v has the bound %v, and the objective %v in DualProgram(%v)", y, bound, got, p)
		}
		proofs, duals = proofs+countOf(proof), duals+countOf(dual)
	}
	if proofs < 100 || duals < 100 {
		t.Errorf("there are %d proofs and %d duals", proofs, duals)
	}
}

func countOf(is bool) int {
	if is {
		return 1
	}
	return 0
}

// splitWeights are elements u, v and s for the weights y: how much they add to
// both u and v differs.
func splitWeights(p impl.Program, y []impl.Rat, least []int) []impl.Rat {
	x := make([]impl.Rat, 2*p.Rows+p.Cols)
	for i, r := range y {
		both := impl.RatOf(i, 3)
		x[i] = impl.RatAdd(both, impl.RatMax(r, impl.RatFromInt(0)))
		x[p.Rows+i] = impl.RatSub(x[i], r)
	}
	for j, n := range least {
		sum := new(big.Rat).Sub(bigWeighted(columnNumbers(p, j), y), big.NewRat(int64(n), 1))
		x[2*p.Rows+j] = ratOfBig(sum)
	}
	return x
}

// certifiedProgram is a program with the texts of what FarkasOf and DualOf are,
// or "none".
type certifiedProgram struct {
	p           impl.Program
	proof, dual string
}

func certifiedPrograms() []certifiedProgram {
	small := []int{1, 1, 0, 0, -1, 1}
	return []certifiedProgram{
		{programOf(2, 3, small, []int{2, 1}, []int{3, 1, 1}), "none", "3 1"},
		{programOf(2, 3, small, []int{2, 1}, []int{0, 0, 0}), "none", "0 0"},
		{programOf(2, 3, small, []int{2, 1}, []int{-3, -1, -1}), "none", "-2 -1"},
		{programOf(2, 3, small, []int{-1, 1}, []int{3, 1, 1}), "1 0", "none"},
		{programOf(2, 3, small, []int{2, -3}, []int{3, 1, 1}), "1 1", "none"},
		{programOf(2, 4, []int{2, 3, 1, 0, 5, 1, 0, 1}, []int{7, 9}, []int{4, 3, 0, 0}), "none", "11/13 6/13"},
		// Of several weights, those whose elements u, and then v, are least.
		{programOf(2, 1, []int{1, 1}, []int{1, 1}, []int{1}), "none", "0 1"},
		{programOf(2, 1, []int{1, 1}, []int{1, 1}, []int{-1}), "none", "0 -1"},
		{programOf(2, 1, []int{1, -1}, []int{1, -1}, []int{1}), "none", "0 -1"},
		{programOf(2, 1, []int{1, -1}, []int{1, -1}, []int{-1}), "none", "-1 0"},
		{programOf(2, 1, []int{-1, 1}, []int{-1, 1}, []int{1}), "none", "-1 0"},
		{programOf(2, 1, []int{0, 0}, []int{3, -4}, []int{0}), "-1/3 0", "none"},
		{programOf(2, 1, []int{0, 0}, []int{-3, 4}, []int{0}), "0 -1/4", "none"},
		{programOf(2, 1, []int{0, 0}, []int{-3, -4}, []int{0}), "0 1/4", "none"},
		{programOf(2, 1, []int{1, 1}, []int{1, 2}, []int{0}), "1 -1", "none"},
		{programOf(2, 1, []int{1, 1}, []int{2, 1}, []int{0}), "-1 1", "none"},
		{programOf(3, 1, []int{1, 1, 1}, []int{1, 1, 1}, []int{1}), "none", "0 0 1"},
		// No x is feasible, and the objective is not bounded by any y either.
		{programOf(1, 1, []int{0}, []int{1}, []int{1}), "-1", "none"},
		{programOf(1, 2, []int{0, 0}, []int{-7}, []int{1, 0}), "1/7", "none"},
		{programOf(1, 2, []int{0, 0}, []int{100}, []int{0, 1}), "-1/100", "none"},
		{programOf(1, 2, []int{0, 0}, []int{0}, []int{0, -1}), "none", "0"},
		{programOf(1, 2, []int{1, 1}, []int{-1}, []int{0, 0}), "1", "none"},
		{programOf(1, 2, []int{1, 1}, []int{0}, []int{0, 0}), "none", "0"},
		{programOf(1, 2, []int{1, 1}, []int{0}, []int{5, 4}), "none", "5"},
		// The objective grows without end.
		{programOf(1, 2, []int{1, -1}, []int{0}, []int{1, 0}), "none", "none"},
		{programOf(1, 2, []int{1, -1}, []int{-5}, []int{-1, 2}), "none", "none"},
		{programOf(1, 2, []int{1, -1}, []int{-5}, []int{-1, 1}), "none", "-1"},
		{programOf(1, 2, []int{1, -1}, []int{0}, []int{1, -2}), "none", "1"},
		// Without columns, without rows, and without both.
		{programOf(2, 0, nil, []int{0, 0}, nil), "none", "0 0"},
		{programOf(2, 0, nil, []int{3, -4}, nil), "-1/3 0", "none"},
		{programOf(2, 0, nil, []int{-4, 3}, nil), "0 -1/3", "none"},
		{programOf(2, 0, nil, []int{0, -8}, nil), "0 1/8", "none"},
		{programOf(0, 3, nil, nil, []int{0, -1, -100}), "none", ""},
		{programOf(0, 3, nil, nil, []int{0, -1, 1}), "none", "none"},
		{impl.Program{}, "none", ""},
	}
}

func TestCertificateExamples(t *testing.T) {
	for _, c := range certifiedPrograms() {
		proof, proved := impl.FarkasOf(c.p)
		weights, bounded := impl.DualOf(c.p)
		if proved != (c.proof != "none") || proved && impl.FormatVector(proof) != c.proof || !proved && len(proof) > 0 {
			t.Errorf("FarkasOf(%v) is %v, %v", c.p, impl.FormatVector(proof), proved)
		}
		if bounded != (c.dual != "none") || bounded && impl.FormatVector(weights) != c.dual || !bounded && len(weights) > 0 {
			t.Errorf("DualOf(%v) is %v, %v", c.p, impl.FormatVector(weights), bounded)
		}
		mustCertify(t, c.p)
	}
	for _, c := range answeredPrograms() {
		if want := mustCertify(t, c.p); want.code != c.want.code {
			t.Errorf("the code of %v is %d", c.p, want.code)
		}
	}
}

// TestCertifyAllOfSigns has all programs of few rows and columns whose numbers
// are from -1 to 1.
func TestCertifyAllOfSigns(t *testing.T) {
	counts := map[int]int{}
	for _, size := range [][2]int{{0, 0}, {0, 1}, {0, 2}, {1, 0}, {1, 1}, {1, 2}, {2, 0}, {2, 1}, {2, 2}, {3, 0}, {3, 1}} {
		rows, cols := size[0], size[1]
		choices := 1
		for range rows*cols + rows + cols {
			choices *= 3
		}
		for k := range choices {
			numbers := signs(rows*cols+rows+cols, k)
			p := programOf(rows, cols, numbers[:rows*cols], numbers[rows*cols:rows*cols+rows], numbers[rows*cols+rows:])
			counts[mustCertify(t, p).code]++
		}
	}
	if counts[impl.LpOk] < 500 || counts[impl.LpNone] < 500 || counts[impl.LpOpen] < 200 {
		t.Errorf("the codes occur so often: %v", counts)
	}
}

// TestCertifySmall has programs of several kinds and all sizes that may have
// certificates.
func TestCertifySmall(t *testing.T) {
	random := rand.New(rand.NewSource(73))
	counts := map[int]int{}
	try := func(p impl.Program) { counts[mustCertify(t, p).code]++ }
	eachSmallSize(func(rows, cols int) {
		most := []int{1, 3, 10, 100}[(rows+cols)%4]
		try(randomProgram(random, rows, cols, most))
		try(feasibleProgram(random, rows, cols, most))
		try(dependentProgram(random, rows, cols))
		try(randomSolved(random, rows, cols).Program)
		if rows < 9 {
			try(bounded(random, randomProgram(random, rows, cols, most)))
			try(bounded(random, withRight(randomProgram(random, rows, cols, most), 0)))
		}
	})
	if counts[impl.LpOk] < 100 || counts[impl.LpNone] < 100 || counts[impl.LpOpen] < 50 {
		t.Errorf("the codes occur so often: %v", counts)
	}
}

// chosenNumbers is a program with all rows and columns that have certificates,
// whose numbers a function chooses.
func chosenNumbers(choose func() int) impl.Program {
	p := constantProgram(9, 16, 0)
	for _, list := range [][]int{p.A, p.B, p.C} {
		for i := range list {
			list[i] = choose()
		}
	}
	return p
}

// TestCertifyAtLimits has programs with all rows and columns, whose numbers go
// to the limit.
func TestCertifyAtLimits(t *testing.T) {
	random := rand.New(rand.NewSource(74))
	counts := map[int]int{}
	try := func(p impl.Program) { counts[mustCertify(t, p).code]++ }
	for range 6 {
		dense := chosenNumbers(func() int { return random.Intn(201) - 100 })
		extreme := chosenNumbers(func() int { return 200*random.Intn(2) - 100 })
		for _, p := range []impl.Program{dense, extreme} {
			try(p)
			try(opposites(p, 0))
			try(opposites(p, -100))
			try(withRight(opposites(p, 1), 0))
		}
		// With positive numbers only, the objective is bounded.
		positive := chosenNumbers(func() int { return random.Intn(100) + 1 })
		try(positive)
		for i := range positive.B {
			positive.B[i] = rowNumbers(positive, i)[15]
		}
		try(positive)
		try(feasibleProgram(random, 9, 16, 100))
	}
	if counts[impl.LpOk] < 10 || counts[impl.LpNone] < 10 || counts[impl.LpOpen] < 3 {
		t.Errorf("the codes occur so often: %v", counts)
	}
}

// TestCertifyLargeNumbers has weights that are quotients of large determinants:
// with the opposite of each column, all sums are exactly the objectives.
func TestCertifyLargeNumbers(t *testing.T) {
	random := rand.New(rand.NewSource(75))
	digits := 0
	for range 5 {
		p := opposites(chosenNumbers(func() int { return 100 - random.Intn(2)*(199+random.Intn(2)) }), 0)
		mustCertify(t, p)
		for j := range 8 {
			p.C[j] = random.Intn(201) - 100
			p.C[8+j] = -p.C[j]
		}
		mustCertify(t, p)
		proof, _ := impl.FarkasOf(p)
		weights, _ := impl.DualOf(p)
		for _, r := range slices.Concat(proof, weights) {
			digits = max(digits, len(toBig(r.Den).String()))
		}
	}
	if digits < 12 {
		t.Errorf("the denominators have only %d digits", digits)
	}
}

// TestCertificatesTooLarge has programs with one row or one column too many, and
// with many, that would have a proof, a dual, or nothing.
func TestCertificatesTooLarge(t *testing.T) {
	random := rand.New(rand.NewSource(76))
	eachProgramSize(func(rows, cols int) {
		if rows <= 9 && cols <= 16 {
			return
		}
		proved := constantProgram(rows, cols, 0)
		proved.B = repeated(rows, 1)
		for _, p := range []impl.Program{proved, constantProgram(rows, cols, 0), constantProgram(rows, cols, 1), randomProgram(random, rows, cols, 100), randomSolved(random, rows, cols).Program} {
			if !impl.ProgramOk(p) {
				t.Errorf("ProgramOk(%s) is false", brief(p))
			}
			mustNotCertify(t, p)
		}
	})
	for _, size := range [][2]int{{9, 16}, {9, 0}, {0, 16}, {9, 1}, {1, 16}} {
		mustCertify(t, constantProgram(size[0], size[1], 0))
		mustCertify(t, withRight(constantProgram(size[0], size[1], 0), 1))
	}
}

func TestCertificatesOfWrongPrograms(t *testing.T) {
	sizes := [][2]int{{0, 0}, {1, 1}, {2, 3}, {1, 16}, {9, 1}, {9, 16}, {20, 40}}
	eachWrongProgram(sizes, func(p impl.Program) { mustRefuseCertificates(t, p) })
}

// mustRefuseCertificates is about a program that is not valid: no result of it is
// proved, whichever lists are given.
func mustRefuseCertificates(t *testing.T, p impl.Program) {
	t.Helper()
	mustNotCertify(t, p)
	for _, n := range []int{-1, 0, 1} {
		if min(p.Rows, p.Cols) < 0 || max(p.Rows, p.Cols) > 50 {
			mustNotProve(t, p, impl.Result{Value: impl.RatFromInt(0)}, nil)
			continue
		}
		x, y := repeatedRat(p.Cols, impl.RatFromInt(max(n, 0))), repeatedRat(p.Rows, impl.RatFromInt(n))
		for _, value := range []impl.Rat{{}, impl.RatFromInt(n * p.Rows), impl.RatFromInt(0)} {
			mustNotProve(t, p, impl.Result{X: x, Value: value}, y)
		}
	}
}

// mustNotProve checks that a result is not proved, with any code.
func mustNotProve(t *testing.T, p impl.Program, r impl.Result, y []impl.Rat) {
	t.Helper()
	for _, code := range allCodes() {
		if r.Code = code; impl.CheckResult(p, r, y) {
			t.Errorf("CheckResult(%s, %s, %s) is true", brief(p), brief(r), brief(y))
		}
	}
}

// allCodes are the codes, and numbers that are none.
func allCodes() []int {
	return []int{impl.LpOk, impl.LpForm, impl.LpNone, impl.LpOpen, 4, 5, -1, -2, 1 << 32, 1<<32 + 2, math.MaxInt, math.MinInt}
}

// TestCheckResultExamples is about the program of a small example: x0 + x1 = 2
// and x2 - x1 = 1, with 3 x0 + x1 + x2 as great as possible.
func TestCheckResultExamples(t *testing.T) {
	p := programOf(2, 3, []int{1, 1, 0, 0, -1, 1}, []int{2, 1}, []int{3, 1, 1})
	cases := []struct {
		x, value, y string
		want        bool
	}{
		{"2 0 1", "7", "3 1", true},
		// Feasible, but not the best.
		{"0 2 3", "7", "3 1", false}, {"0 2 3", "5", "3 1", false}, {"1 1 2", "6", "3 1", false}, {"1 1 2", "6", "2 2", false},
		// Not feasible: by a row, or by a negative element. The others hold.
		{"0 0 7", "7", "3 1", false}, {"2 0 1/2", "7", "3 1", false}, {"1 2 2", "7", "3 1", false}, {"3 -1 0", "8", "3 2", false}, {"3 -1 0", "7", "3 1", false},
		// Another value.
		{"2 0 1", "8", "3 1", false}, {"2 0 1", "6", "3 1", false}, {"2 0 1", "0", "3 1", false}, {"2 0 1", "-7", "3 1", false}, {"2 0 1", "15/2", "3 1", false}, {"2 0 1", "1/7", "3 1", false},
		// A dual with a greater bound, and none with the bound.
		{"2 0 1", "7", "3 2", false}, {"2 0 1", "8", "3 2", false}, {"2 0 1", "7", "4 1", false}, {"2 0 1", "9", "4 1", false},
		{"2 0 1", "7", "2 3", false}, {"2 0 1", "7", "7/2 0", false}, {"2 0 1", "7", "5/2 2", false}, {"2 0 1", "7", "31/10 4/5", false}, {"2 0 1", "7", "0 0", false}, {"2 0 1", "7", "1 3", false},
		// Other lengths, and both lists exchanged.
		{"2 0", "7", "3 1", false}, {"2 0 1 0", "7", "3 1", false}, {"", "7", "3 1", false}, {"2 0 1", "7", "3", false}, {"2 0 1", "7", "3 1 0", false}, {"2 0 1", "7", "", false}, {"3 1", "7", "2 0 1", false}, {"", "0", "", false},
	}
	for _, c := range cases {
		x, y, value := vectorOf(strings.Fields(c.x)...), vectorOf(strings.Fields(c.y)...), vectorOf(c.value)[0]
		for _, code := range allCodes() {
			r := impl.Result{Code: code, X: x, Value: value}
			if got := impl.CheckResult(p, r, y); got != (c.want && code == impl.LpOk) {
				t.Errorf("with the code %d, X %s and the value %s, and the weights %s, CheckResult is %v", code, c.x, c.value, c.y, got)
			}
		}
	}
	// Without an objective, each feasible x is as good as the least one.
	for _, x := range []string{"0 2 3", "2 0 1", "1 1 2", "1/2 3/2 5/2"} {
		r := impl.Result{X: vectorOf(strings.Fields(x)...), Value: impl.RatFromInt(0)}
		if q := withObjective(p, make([]int, 3)); !impl.CheckResult(q, r, vectorOf("0", "0")) || impl.CheckResult(q, r, vectorOf("0", "1")) {
			t.Errorf("%s without an objective is not proved, or by other weights", x)
		}
	}
}

// TestCheckProofs is about results without a feasible x, in which nothing but
// the code counts.
func TestCheckProofs(t *testing.T) {
	p := programOf(2, 3, []int{1, 1, 0, 0, -1, 1}, []int{-1, 1}, []int{3, 1, 1})
	results := []impl.Result{
		{}, {X: vectorOf("2", "0", "1"), Value: impl.RatFromInt(7)}, {X: vectorOf("0"), Value: impl.RatFromInt(0)}, {Value: impl.RatFromInt(-1)},
		{X: make([]impl.Rat, 3)}, {X: make([]impl.Rat, 50), Value: ratio(plus(2), 4)},
	}
	cases := []struct {
		y    string
		want bool
	}{
		{"1 0", true}, {"1/1000 0", true}, {"5 4", true}, {"1 1/2", true}, {"100 0", true},
		{"1 1", false}, {"0 0", false}, {"-1 0", false}, {"1 -1", false}, {"0 -1", false}, {"1/2 1", false}, {"3 1 0", false}, {"3", false}, {"", false},
	}
	for _, c := range cases {
		y := vectorOf(strings.Fields(c.y)...)
		for _, r := range results {
			for _, code := range allCodes() {
				r.Code = code
				if got := impl.CheckResult(p, r, y); got != (c.want && code == impl.LpNone) {
					t.Errorf("CheckResult(%v, %s, %s) is %v", p, brief(r), c.y, got)
				}
			}
		}
	}
}

// bigProved is what CheckResult is for a valid program and lists of as many
// fractions as it has columns and rows.
func bigProved(p impl.Program, r impl.Result, y []impl.Rat) bool {
	bound := bigWeighted(p.B, y)
	if bound == nil {
		return false
	}
	switch r.Code {
	case impl.LpOk:
		objective := bigWeighted(p.C, r.X)
		if objective == nil || objective.Cmp(bound) != 0 || !isRat(r.Value, bound) {
			return false
		}
		return bigFeasible(p, r.X) && bigReaches(p, y, p.C)
	case impl.LpNone:
		return bound.Sign() < 0 && bigReaches(p, y, make([]int, p.Cols))
	}
	return false
}

// mustCheck compares CheckResult with bigProved.
func mustCheck(t *testing.T, p impl.Program, r impl.Result, y []impl.Rat) bool {
	t.Helper()
	got, want := impl.CheckResult(p, r, y), bigProved(p, r, y)
	if got != want {
		t.Errorf("CheckResult(%s, %s, %s) is %v", brief(p), brief(r), brief(y), got)
	}
	return want
}

// TestCheckSmallNumbers is about few rows and columns, where lists by chance
// often prove a result.
func TestCheckSmallNumbers(t *testing.T) {
	random := rand.New(rand.NewSource(77))
	texts := []string{"0", "0", "1", "-1", "2", "1/2", "-1/2", "3"}
	counts := map[int]int{}
	for k := range 20000 {
		rows, cols := k%3, k/3%4
		p := randomProgram(random, rows, cols, 2)
		x, y := chosen(random, cols, 1, texts).Cells, chosen(random, rows, 1, texts).Cells
		objective, _ := impl.ObjectiveAt(p, x)
		bound, _ := impl.BoundAt(p, y)
		for _, value := range []impl.Rat{objective, bound, impl.RatFromInt(0), {}} {
			for code := -1; code <= 4; code++ {
				if mustCheck(t, p, impl.Result{Code: code, X: x, Value: value}, y) {
					counts[code]++
				}
			}
		}
	}
	if counts[impl.LpOk] < 500 || counts[impl.LpNone] < 500 || len(counts) != 2 {
		t.Errorf("the codes are proved so often: %v", counts)
	}
}

// TestCheckLargeSums has sums that are too large: a value that is the zero value
// as well does not make them one.
func TestCheckLargeSums(t *testing.T) {
	most := ratio(plus(greatest(24)...), 1)
	p := programOf(1, 2, []int{1, 0}, []int{100}, []int{0, -100})
	x, y := []impl.Rat{impl.RatFromInt(100), most}, []impl.Rat{most}
	if !impl.IsFeasible(p, x) || !impl.IsDual(p, y) {
		t.Errorf("%s is not feasible, or %s is no dual", brief(x), brief(y))
	}
	values := append(notRats(), impl.RatFromInt(0), most, impl.RatNeg(most))
	for _, value := range values {
		mustNotProve(t, p, impl.Result{X: x, Value: value}, y)
		// One of both sums is not too large.
		mustNotProve(t, p, impl.Result{X: vectorOf("100", "0"), Value: value}, y)
		mustNotProve(t, p, impl.Result{X: x, Value: value}, vectorOf("0"))
		// Neither is, and it is the value.
		want := sameRat(value, impl.RatFromInt(0))
		if got := impl.CheckResult(p, impl.Result{X: vectorOf("100", "0"), Value: value}, vectorOf("0")); got != want {
			t.Errorf("with the value %s, CheckResult is %v", brief(value), got)
		}
	}
	// The greatest objective and bound that are fractions.
	q := programOf(1, 3, []int{1, 1, -1}, []int{1}, []int{0, 0, -1})
	r := impl.Result{X: []impl.Rat{impl.RatFromInt(1), most, most}, Value: impl.RatNeg(most)}
	mustCheck(t, q, r, []impl.Rat{impl.RatNeg(most)})
	for _, c := range weightedSums() {
		list := vectorOf(strings.Fields(c.list)...)
		value, _ := impl.ParseRat(c.want)
		for _, code := range []int{impl.LpOk, impl.LpNone} {
			p := constantProgram(len(list), 2, 0)
			p.B = c.numbers
			mustCheck(t, p, impl.Result{Code: code, X: ratsOf(0, 0), Value: value}, list)
			p = constantProgram(2, len(list), 0)
			p.C = c.numbers
			mustCheck(t, p, impl.Result{Code: code, X: list, Value: value}, ratsOf(0, 0))
		}
	}
}

// bestSolved is a program of which the greatest objective and the least bound
// are known, with the result and the dual.
func bestSolved(random *rand.Rand, rows, cols int) (impl.Program, impl.Result, []impl.Rat) {
	s := randomSolved(random, rows, cols)
	for j, r := range s.x {
		if toBigRat(r).Sign() > 0 {
			sum, _ := bigWeighted(columnNumbers(s.Program, j), s.y).Float64()
			s.C[j] = int(sum)
		}
	}
	return s.Program, impl.Result{X: s.x, Value: ratOfBig(bigWeighted(s.B, s.y))}, s.y
}

// refuted is a program in which the sum of some rows has no negative element,
// but a negative right side, with the weights of this proof.
func refuted(random *rand.Rand, rows, cols int) (impl.Program, []impl.Rat) {
	p, y := randomProgram(random, rows, cols, 10), fewNumbers(random, rows, -2, 2)
	y[rows-1] = 1
	last := rowNumbers(p, rows-1)
	for j := range cols {
		last[j] = 0
		last[j] = random.Intn(3) - sumOf(columnNumbers(p, j), y)
	}
	p.B[rows-1] = 0
	p.B[rows-1] = -random.Intn(3) - 1 - sumOf(p.B, y)
	return p, ratsOf(y...)
}

// TestCheckAllSizes has programs of all sizes, also those that are too large for
// the other functions, and spoils each element of a result and its weights.
func TestCheckAllSizes(t *testing.T) {
	random := rand.New(rand.NewSource(78))
	try := func(p impl.Program, r impl.Result, y []impl.Rat) {
		t.Helper()
		if !mustCheck(t, p, r, y) {
			t.Errorf("the result %s of %s is not proved by %s", brief(r), brief(p), brief(y))
		}
		bad, by := notRats()[random.Intn(20)], []impl.Rat{impl.RatFromInt(1), impl.RatFromInt(-1), impl.RatOf(1, 1000)}[random.Intn(3)]
		if p.Cols > 0 {
			i := random.Intn(p.Cols)
			mustCheck(t, p, impl.Result{Code: r.Code, X: replaced(r.X, i, impl.RatAdd(r.X[i], by)), Value: r.Value}, y)
			if got := impl.CheckResult(p, impl.Result{Code: r.Code, X: replaced(r.X, i, bad), Value: r.Value}, y); got != (r.Code == impl.LpNone) {
				t.Errorf("with %v as the element %d of X, CheckResult is %v", bad, i, got)
			}
		}
		if p.Rows > 0 {
			i := random.Intn(p.Rows)
			mustCheck(t, p, r, replaced(y, i, impl.RatAdd(y[i], by)))
			mustNotProve(t, p, r, replaced(y, i, bad))
			mustNotProve(t, p, r, y[1:])
		}
		mustNotProve(t, p, r, append(clonedVector(y), impl.RatFromInt(0)))
	}
	eachProgramSize(func(rows, cols int) {
		p, r, y := bestSolved(random, rows, cols)
		try(p, r, y)
		mustCheck(t, p, impl.Result{X: r.X, Value: impl.RatAdd(r.Value, impl.RatOf(1, 7))}, y)
		if rows > 0 {
			p, y = refuted(random, rows, cols)
			for !impl.ProgramOk(p) {
				p, y = refuted(random, rows, cols)
			}
			try(p, impl.Result{Code: impl.LpNone, X: repeatedRat(cols, impl.RatFromInt(0))}, y)
		}
	})
}

// TestCheckInvalid puts each value that is not valid at each index, where all
// numbers of the program are 0 and where they are not.
func TestCheckInvalid(t *testing.T) {
	for _, bad := range notRats() {
		for _, size := range [][2]int{{1, 1}, {2, 3}, {0, 2}, {2, 0}} {
			p := constantProgram(size[0], size[1], 0)
			x, y := repeatedRat(p.Cols, impl.RatFromInt(0)), repeatedRat(p.Rows, impl.RatFromInt(0))
			r := impl.Result{X: x, Value: impl.RatFromInt(0)}
			if !impl.CheckResult(p, r, y) {
				t.Errorf("CheckResult(%v, %v, %v) is false", p, r, y)
			}
			mustNotProve(t, p, impl.Result{X: x, Value: bad}, y)
			for j := range x {
				mustNotProve(t, p, impl.Result{X: replaced(x, j, bad), Value: r.Value}, y)
				mustNotProve(t, p, impl.Result{X: replaced(x, j, bad), Value: bad}, y)
			}
			for i := range y {
				mustNotProve(t, p, r, replaced(y, i, bad))
				mustNotProve(t, p, impl.Result{X: x, Value: bad}, replaced(y, i, bad))
				// The other weights are a proof.
				q := withRight(p, -1)
				ones := repeatedRat(p.Rows, impl.RatFromInt(1))
				if !impl.CheckResult(q, impl.Result{Code: impl.LpNone}, ones) {
					t.Errorf("CheckResult(%v, %v) is false", q, ones)
				}
				mustNotProve(t, q, impl.Result{Code: impl.LpNone}, replaced(ones, i, bad))
			}
		}
		mustNotProve(t, impl.Program{}, impl.Result{Value: bad}, nil)
		mustNotProve(t, impl.Program{}, impl.Result{X: []impl.Rat{bad}, Value: impl.RatFromInt(0)}, nil)
		mustNotProve(t, impl.Program{}, impl.Result{Value: impl.RatFromInt(0)}, []impl.Rat{bad})
	}
}

// TestCheckLengths has X and weights of all other lengths.
func TestCheckLengths(t *testing.T) {
	zero := impl.RatFromInt(0)
	for _, size := range [][2]int{{0, 0}, {0, 1}, {1, 0}, {1, 1}, {2, 3}, {9, 16}, {10, 17}, {20, 40}, {20, 20}, {3, 24}, {3, 25}} {
		p := constantProgram(size[0], size[1], 0)
		wrong := withRight(p, -1)
		for _, n := range append(lengthsAround(), 38, 39, 40, 41, 42, 800) {
			x, y := repeatedRat(p.Cols, zero), repeatedRat(p.Rows, zero)
			list, ones := repeatedRat(n, zero), repeatedRat(n, impl.RatFromInt(1))
			if got := impl.CheckResult(p, impl.Result{X: list, Value: zero}, y); got != (n == p.Cols) {
				t.Errorf("with %d elements of X, CheckResult(%s) is %v", n, brief(p), got)
			}
			if got := impl.CheckResult(p, impl.Result{X: x, Value: zero}, list); got != (n == p.Rows) {
				t.Errorf("with %d weights, CheckResult(%s) is %v", n, brief(p), got)
			}
			if got := impl.CheckResult(wrong, impl.Result{Code: impl.LpNone, X: list}, ones); got != (n == p.Rows && n > 0) {
				t.Errorf("with %d weights, CheckResult(%s) is %v", n, brief(wrong), got)
			}
		}
	}
	for _, empty := range [][]impl.Rat{nil, {}} {
		if !impl.CheckResult(impl.Program{}, impl.Result{X: empty, Value: zero}, empty) {
			t.Error("the result of the program without rows and columns is not proved")
		}
	}
}

// certificateLists are all numbers and fractions that the functions return.
func certificateLists(p impl.Program) [][]impl.Rat {
	proof, _ := impl.FarkasOf(p)
	weights, _ := impl.DualOf(p)
	lists := [][]impl.Rat{proof, weights}
	for _, search := range []impl.Program{impl.FarkasProgram(p), impl.DualProgram(p)} {
		lists = append(lists, []impl.Rat{{Den: search.A}}, []impl.Rat{{Den: search.B}}, []impl.Rat{{Den: search.C}})
	}
	return lists
}

// TestCertificateMemory checks that neither the program, with the room behind
// its lists, nor the other results change when results are spoiled.
func TestCertificateMemory(t *testing.T) {
	random := rand.New(rand.NewSource(79))
	programs := []impl.Program{constantProgram(10, 1, 0), constantProgram(1, 17, 0), constantProgram(1, 1, 101), constantProgram(9, 16, -100), randomProgram(random, 9, 16, 100), randomSolved(random, 9, 16).Program}
	for _, c := range certifiedPrograms() {
		programs = append(programs, c.p)
	}
	for _, want := range programs {
		a, b, c := withRoom(want.A), withRoom(want.B), withRoom(want.C)
		p := programOf(want.Rows, want.Cols, a[:len(want.A)], b[:len(want.B)], c[:len(want.C)])
		mustBeApart(t, certificateLists(p), certificateLists(clonedProgram(want)))
		if !slices.Equal(a, withRoom(want.A)) || !slices.Equal(b, withRoom(want.B)) || !slices.Equal(c, withRoom(want.C)) {
			t.Errorf("the program %s was changed to %s", brief(want), brief(p))
		}
	}
	// One list as all numbers of a program.
	for n := range 10 {
		numbers := numbersUpTo(random, n*n, 100)
		p := programOf(n, n, numbers, numbers[:n], numbers[:n])
		want := clonedProgram(p)
		mustCertify(t, p)
		mustBeApart(t, certificateLists(p), certificateLists(want))
	}
}

// TestCheckMemory checks that CheckResult keeps all of its arguments, and the
// room behind them, as they are.
func TestCheckMemory(t *testing.T) {
	random := rand.New(rand.NewSource(80))
	for k := range 60 {
		want, r, y := bestSolved(random, k%21, k%41)
		if k%3 == 1 && want.Rows > 0 {
			r.Code = impl.LpNone
			want, y = refuted(random, want.Rows, want.Cols)
		}
		a, b, c := withRoom(want.A), withRoom(want.B), withRoom(want.C)
		p := programOf(want.Rows, want.Cols, a[:len(want.A)], b[:len(want.B)], c[:len(want.C)])
		x, weights, value := vectorWithRoom(r.X), vectorWithRoom(y), vectorWithRoom([]impl.Rat{r.Value})
		got := impl.CheckResult(p, impl.Result{Code: r.Code, X: x, Value: value[0]}, weights)
		if got != impl.CheckResult(clonedProgram(want), clonedResult(r), clonedVector(y)) {
			t.Errorf("CheckResult(%s, %s, %s) is %v", brief(p), brief(r), brief(y), got)
		}
		kept := roomIsKept(x, r.X) && roomIsKept(weights, y) && roomIsKept(value, []impl.Rat{r.Value})
		if !kept || !slices.Equal(a, withRoom(want.A)) || !slices.Equal(b, withRoom(want.B)) || !slices.Equal(c, withRoom(want.C)) {
			t.Errorf("the arguments %s, %s and %s were changed to %s, %s and %s", brief(want), brief(r), brief(y), brief(p), brief(x), brief(weights))
		}
	}
	// One list as X and as the weights.
	p := programOf(1, 1, []int{1}, []int{1}, []int{1})
	list := ratsOf(1)
	if !impl.CheckResult(p, impl.Result{X: list, Value: list[0]}, list) || !sameVector(list, ratsOf(1)) {
		t.Errorf("CheckResult(%v) is false, or changed %v", p, list)
	}
}
