package tests

import (
	"math"
	"math/rand"
	"slices"
	"testing"

	"loop.example/g00830/impl"
)

// notComponents are beyond MaxLoad, also where their negative or a multiple of
// them wraps around.
func notComponents() []int {
	return []int{
		-101, 101, -102, 102, 200, -200, 255, 256, -256, 1 << 16, 1 << 32, -1 << 32, 1<<32 + 7, 1 << 62,
		math.MaxInt, math.MaxInt - 100, math.MinInt, math.MinInt + 1, math.MinInt + 100,
	}
}

// notPivots are beyond the places about which a moment is taken.
func notPivots() []int {
	return []int{
		-1001, 1001, -1002, 1002, 2000, 1 << 16, 1 << 32, -1 << 32, 1<<32 + 7, 1 << 62,
		math.MaxInt, math.MaxInt - 1000, math.MinInt, math.MinInt + 1, math.MinInt + 1000,
	}
}

func pivots() []int { return []int{-1000, -999, -51, -50, -7, 0, 1, 8, 50, 999, 1000} }

// loadedStructures are valid, with every number of joints, and with and without
// members and free joints.
func loadedStructures() []impl.Structure {
	list := []impl.Structure{triangle(), largest()}
	for n := range 7 {
		list = append(list, structureOf(largest().Joints[:n]))
	}
	held := []impl.Joint{support("a", 1, 2), support("b", -3, 50), support("c", -50, 0)}
	same := []impl.Joint{joint("a", 7, 7), joint("b", 7, 7)}
	return append(list, structureOf(held), structureOf(same), structureOf(held[:1]))
}

// isLoad is LoadOk by looking at one component after the other.
func isLoad(s impl.Structure, l []int) bool {
	if !isValid(s) || len(l) != len(s.Joints)+len(s.Joints) {
		return false
	}
	for _, n := range l {
		if n < -100 || n > 100 {
			return false
		}
	}
	return true
}

// sumsOf are the sums of the X and of the Y components, and the moment about
// the origin.
func sumsOf(s impl.Structure, l []int) (int, int, int) {
	x, y, moment := 0, 0, 0
	for k, n := range l {
		if k%2 == 0 {
			x += n
			moment -= s.Joints[k/2].Y * n
		} else {
			y += n
			moment += s.Joints[k/2].X * n
		}
	}
	return x, y, moment
}

// momentAbout is the moment about the origin, moved to another point.
func momentAbout(s impl.Structure, l []int, x, y int) int {
	totalX, totalY, moment := sumsOf(s, l)
	return moment - x*totalY + y*totalX
}

// putTo is PutLoad without sums that may wrap around.
func putTo(s impl.Structure, l []int, at, x, y int) ([]int, bool) {
	if !isLoad(s, l) || at < 0 || at >= len(s.Joints) {
		return nil, false
	}
	put := slices.Clone(l)
	for k, n := range []int{x, y} {
		if n < -200 || n > 200 {
			return nil, false
		}
		put[2*at+k] += n
	}
	return put, isLoad(s, put)
}

// mixOf is MixLoads by adding each case as often as its weight says.
func mixOf(s impl.Structure, cases [][]int, weights []int) ([]int, bool) {
	if len(cases) != len(weights) || len(cases) > 10 {
		return nil, false
	}
	sum := repeated(2*len(s.Joints), 0)
	for k, l := range cases {
		if !isLoad(s, l) || weights[k] < 0 || weights[k] > 100 {
			return nil, false
		}
		for range weights[k] {
			for i, n := range l {
				sum[i] += n
			}
		}
	}
	return sum, isLoad(s, sum)
}

// mustWeigh compares what the functions return for a load with what its
// components say. It reports whether it is a load.
func mustWeigh(t *testing.T, s impl.Structure, l []int) bool {
	t.Helper()
	valid := isLoad(s, l)
	if impl.LoadOk(s, l) != valid {
		t.Errorf("LoadOk(%s, %s) is %v", brief(s), brief(l), !valid)
	}
	x, y := 0, 0
	if valid {
		x, y, _ = sumsOf(s, l)
	}
	if gotX, gotY := impl.TotalOf(s, l); gotX != x || gotY != y {
		t.Errorf("TotalOf(%s, %s) is %d, %d, not %d, %d", brief(s), brief(l), gotX, gotY, x, y)
	}
	for _, p := range [][2]int{{0, 0}, {1, 0}, {0, 1}, {-7, 31}, {-1000, 999}, {1000, 1000}, {1001, 0}, {0, -1001}, {math.MinInt, 0}} {
		mustTurn(t, s, l, p[0], p[1])
	}
	return valid
}

// mustTurn compares MomentOf with momentAbout.
func mustTurn(t *testing.T, s impl.Structure, l []int, x, y int) {
	t.Helper()
	want := 0
	if isLoad(s, l) && x >= -1000 && x <= 1000 && y >= -1000 && y <= 1000 {
		want = momentAbout(s, l, x, y)
	}
	if got := impl.MomentOf(s, l, x, y); got != want {
		t.Errorf("MomentOf(%s, %s, %d, %d) is %d, not %d", brief(s), brief(l), x, y, got, want)
	}
}

// mustReturn compares a load and a report with what they should be: without a
// load, the list is empty.
func mustReturn(t *testing.T, got []int, ok bool, want []int, fine bool) bool {
	t.Helper()
	if !fine {
		want = nil
	}
	if !slices.Equal(got, want) || ok != fine {
		t.Errorf("it is %s, %v, not %s, %v", brief(got), ok, brief(want), fine)
		return false
	}
	return true
}

// mustPut compares PutLoad with putTo.
func mustPut(t *testing.T, s impl.Structure, l []int, at, x, y int) bool {
	t.Helper()
	want, fine := putTo(s, l, at, x, y)
	got, ok := impl.PutLoad(s, l, at, x, y)
	if !mustReturn(t, got, ok, want, fine) {
		t.Errorf("of PutLoad(%s, %s, %d, %d, %d)", brief(s), brief(l), at, x, y)
	}
	return fine
}

// mustMix compares MixLoads with mixOf.
func mustMix(t *testing.T, s impl.Structure, cases [][]int, weights []int) bool {
	t.Helper()
	want, fine := mixOf(s, cases, weights)
	got, ok := impl.MixLoads(s, cases, weights)
	if !mustReturn(t, got, ok, want, fine) {
		t.Errorf("of MixLoads(%s, %s, %s)", brief(s), brief(cases), brief(weights))
	}
	return fine
}

// mustBeSameLoads checks SameLoads in both orders.
func mustBeSameLoads(t *testing.T, a, b []int, want bool) {
	t.Helper()
	if impl.SameLoads(a, b) != want || impl.SameLoads(b, a) != want {
		t.Errorf("SameLoads(%s, %s) is not %v in both orders", brief(a), brief(b), want)
	}
}

// randomLoad has components of up to most.
func randomLoad(random *rand.Rand, s impl.Structure, most int) []int {
	return numbersUpTo(random, 2*len(s.Joints), most)
}

// withNumber is the list with another number at an index.
func withNumber(list []int, i, n int) []int {
	list = slices.Clone(list)
	list[i] = n
	return list
}

// notLoads are a load of s with one wrong component, or as many components as
// no load of s has.
func notLoads(s impl.Structure, l []int) [][]int {
	var list [][]int
	for i := range l {
		for _, n := range notComponents() {
			list = append(list, withNumber(l, i, n))
		}
	}
	for _, n := range []int{0, 1, len(l) / 2, len(l) - 2, len(l) - 1, len(l) + 1, len(l) + 2, 2 * len(l), 2*len(l) + 4, 12, 14, 3000} {
		if n >= 0 && n != len(l) {
			list = append(list, repeated(n, 1), repeated(n, 0))
		}
	}
	if len(l) > 0 {
		list = append(list, nil)
	}
	return list
}

func TestLoadConstant(t *testing.T) {
	if impl.MaxLoad != 100 {
		t.Errorf("the limit is %d", impl.MaxLoad)
	}
}

// TestLoadExamples has answers worked out by hand.
func TestLoadExamples(t *testing.T) {
	s := triangle()
	l, ok := impl.PutLoad(s, impl.NoLoad(s), 2, 5, -8)
	mustReturn(t, l, ok, []int{0, 0, 0, 0, 5, -8, 0, 0}, true)
	// A load also acts on fixed joints.
	l, ok = impl.PutLoad(s, l, 0, -1, 2)
	mustReturn(t, l, ok, []int{-1, 2, 0, 0, 5, -8, 0, 0}, true)
	l, ok = impl.PutLoad(s, l, 2, -6, 3)
	mustReturn(t, l, ok, []int{-1, 2, 0, 0, -1, -5, 0, 0}, true)
	if x, y := impl.TotalOf(s, l); x != -2 || y != -3 {
		t.Errorf("the total is %d, %d", x, y)
	}
	// About the origin, a is at -3, 0 and c at 0, -4; about 1, 2, they are at
	// -4, -2 and -1, -6.
	if got := impl.MomentOf(s, l, 0, 0); got != -6-4 {
		t.Errorf("the moment about the origin is %d", got)
	}
	if got := impl.MomentOf(s, l, 1, 2); got != -8-2+5-6 {
		t.Errorf("the moment about another point is %d", got)
	}
	wind := []int{3, 0, 3, 0, 3, 0, 0, 0}
	l, ok = impl.MixLoads(s, [][]int{l, wind}, []int{2, 10})
	mustReturn(t, l, ok, []int{28, 4, 30, 0, 28, -10, 0, 0}, true)
	l, ok = impl.MixLoads(s, [][]int{wind, wind}, []int{30, 4})
	mustReturn(t, l, ok, nil, false)
	mustBeSameLoads(t, wind, []int{3, 0, 3, 0, 3, 0, 0, 0}, true)
	mustBeSameLoads(t, wind, []int{3, 0, 3, 0, 3, 0, 0, 1}, false)
}

func TestNoLoad(t *testing.T) {
	for _, s := range loadedStructures() {
		l := impl.NoLoad(s)
		if !slices.Equal(l, repeated(2*len(s.Joints), 0)) || !mustWeigh(t, s, l) {
			t.Errorf("NoLoad(%s) is %v", brief(s), l)
		}
	}
	for _, s := range notStructures() {
		if l := impl.NoLoad(s); len(l) != 0 {
			t.Errorf("NoLoad(%s) is %s", brief(s), brief(l))
		}
	}
}

// TestLoadComponents has each component at every number near the limits, and
// far beyond them.
func TestLoadComponents(t *testing.T) {
	random := rand.New(rand.NewSource(91))
	numbers := notComponents()
	for n := -105; n <= 105; n++ {
		numbers = append(numbers, n)
	}
	for _, s := range loadedStructures() {
		for i := range 2 * len(s.Joints) {
			for _, n := range numbers {
				want := n >= -100 && n <= 100
				if mustWeigh(t, s, withNumber(randomLoad(random, s, 100), i, n)) != want || mustWeigh(t, s, withNumber(impl.NoLoad(s), i, n)) != want {
					t.Errorf("with the component %d at %d, a load is not %v", n, i, want)
				}
			}
		}
		most, least := repeated(2*len(s.Joints), 100), repeated(2*len(s.Joints), -100)
		if !mustWeigh(t, s, most) || !mustWeigh(t, s, least) {
			t.Errorf("of %s, the greatest load or its negative is none", brief(s))
		}
	}
}

// TestLoadLengths has lists of all lengths up to a few too many.
func TestLoadLengths(t *testing.T) {
	for joints := range 9 {
		var s impl.Structure
		for i := range joints {
			s.Joints = append(s.Joints, joint(string(rune('a'+i)), i, -i))
		}
		for n := range 20 {
			want := joints <= 6 && n == 2*joints
			if mustWeigh(t, s, repeated(n, 1)) != want || mustWeigh(t, s, repeated(n, 0)) != want {
				t.Errorf("with %d joints, %d numbers are not %v", joints, n, want)
			}
		}
	}
}

// mustRefuseLoad checks what all functions return for a list that is no load.
func mustRefuseLoad(t *testing.T, s impl.Structure, l, load []int) {
	t.Helper()
	if mustWeigh(t, s, l) {
		t.Errorf("%s is a load of %s", brief(l), brief(s))
	}
	for at := range len(s.Joints) {
		if at < 8 && (mustPut(t, s, l, at, 0, 0) || mustPut(t, s, l, at, -1, 1)) {
			t.Errorf("%s can be added to", brief(l))
		}
	}
	for _, cases := range [][][]int{{l}, {load, l}, {l, load}, {l, l}, {load, l, load}} {
		for _, weight := range []int{0, 1, 100} {
			if mustMix(t, s, cases, repeated(len(cases), weight)) {
				t.Errorf("%s can be mixed", brief(l))
			}
		}
	}
}

func TestListsThatAreNoLoad(t *testing.T) {
	for _, s := range loadedStructures() {
		load := repeated(2*len(s.Joints), 0)
		for _, l := range notLoads(s, load) {
			mustRefuseLoad(t, s, l, load)
		}
	}
}

// TestLoadsOfInvalid has lists that would be loads if the structure were valid.
func TestLoadsOfInvalid(t *testing.T) {
	for _, s := range notStructures() {
		l := repeated(2*len(s.Joints), 3)
		mustRefuseLoad(t, s, l, repeated(2*len(s.Joints), 0))
		mustRefuseLoad(t, s, nil, l)
		if mustMix(t, s, nil, nil) || mustMix(t, s, [][]int{}, []int{}) {
			t.Errorf("%s has a mixed load", brief(s))
		}
	}
}

// TestWithoutJoints has the only load of the structure without joints, as a nil
// and as an empty list.
func TestWithoutJoints(t *testing.T) {
	for _, s := range []impl.Structure{{}, {Joints: []impl.Joint{}}, {Members: []impl.Member{}}} {
		for _, l := range [][]int{nil, {}} {
			if !mustWeigh(t, s, l) || !mustMix(t, s, [][]int{l, nil, {}}, []int{0, 1, 100}) {
				t.Errorf("%#v is no load", l)
			}
			for _, at := range notIndices(0) {
				mustPut(t, s, l, at, 0, 0)
			}
			mustBeSameLoads(t, l, impl.NoLoad(s), true)
		}
		if !mustMix(t, s, nil, []int{}) || !mustMix(t, s, make([][]int, 10), make([]int, 10)) || mustMix(t, s, make([][]int, 11), make([]int, 11)) {
			t.Error("without joints, the number of cases does not matter")
		}
	}
}

// TestPutLoadSums has sums up to the limits, beyond them and back, in one of
// the components.
func TestPutLoadSums(t *testing.T) {
	random := rand.New(rand.NewSource(92))
	numbers := notComponents()
	for n := -205; n <= 205; n++ {
		numbers = append(numbers, n)
	}
	for _, s := range []impl.Structure{triangle(), largest()} {
		for at := range s.Joints {
			for _, component := range []int{-101, -100, -99, -1, 0, 1, 37, 99, 100, 101} {
				l := randomLoad(random, s, 100)
				other := l[2*at : 2*at+2]
				l = withNumber(l, 2*at, component)
				inY := withNumber(withNumber(l, 2*at, other[0]), 2*at+1, component)
				for _, n := range numbers {
					want := component >= -100 && component <= 100 && n >= -100-component && n <= 100-component
					if mustPut(t, s, l, at, n, 0) != want || mustPut(t, s, inY, at, 0, n) != want {
						t.Errorf("%d added to %d is not %v", n, component, want)
					}
				}
			}
		}
	}
}

// TestPutLoadPairs has all pairs of a few x and y, of which one or both may be
// too large.
func TestPutLoadPairs(t *testing.T) {
	numbers := append(notComponents(), -200, -199, -100, -99, -60, -40, -1, 0, 1, 40, 60, 99, 100, 199, 200)
	for _, s := range loadedStructures() {
		for _, l := range [][]int{repeated(2*len(s.Joints), 0), repeated(2*len(s.Joints), 100), repeated(2*len(s.Joints), -40)} {
			for at := range s.Joints {
				for _, x := range numbers {
					for _, y := range numbers {
						mustPut(t, s, l, at, x, y)
					}
				}
			}
		}
	}
}

// TestPutLoadOutside has numbers that are no joints, also those of which the
// double wraps around to an index.
func TestPutLoadOutside(t *testing.T) {
	for _, s := range loadedStructures() {
		l := repeated(2*len(s.Joints), 5)
		for _, at := range append(notIndices(len(s.Joints)), math.MinInt+1, math.MinInt+5, 1<<62) {
			if mustPut(t, s, l, at, 0, 0) || mustPut(t, s, l, at, 1, -1) {
				t.Errorf("%s has a joint %d", brief(s), at)
			}
		}
	}
}

// TestPutLoadLaws puts forces one after the other, in any order.
func TestPutLoadLaws(t *testing.T) {
	random := rand.New(rand.NewSource(93))
	for _, s := range loadedStructures() {
		if len(s.Joints) == 0 {
			continue
		}
		for range 200 {
			l := randomLoad(random, s, 30)
			a, b := random.Intn(len(s.Joints)), random.Intn(len(s.Joints))
			x, y := random.Intn(31)-15, random.Intn(31)-15
			first, _ := impl.PutLoad(s, l, a, x, y)
			both, _ := impl.PutLoad(s, first, b, y, -x)
			second, _ := impl.PutLoad(s, l, b, y, -x)
			again, ok := impl.PutLoad(s, second, a, x, y)
			mustReturn(t, both, ok, again, true)
			oldX, oldY := impl.TotalOf(s, l)
			if newX, newY := impl.TotalOf(s, first); newX != oldX+x || newY != oldY+y {
				t.Errorf("with %d, %d, the total %d, %d became %d, %d", x, y, oldX, oldY, newX, newY)
			}
			// A force has no moment about its own joint.
			j := s.Joints[a]
			if impl.MomentOf(s, first, j.X, j.Y) != impl.MomentOf(s, l, j.X, j.Y) {
				t.Errorf("about its own joint, a force on %s has a moment", j.Name)
			}
			back, ok := impl.PutLoad(s, first, a, -x, -y)
			mustReturn(t, back, ok, l, true)
		}
	}
}

// TestMixLoadsNumbers has all pairs of numbers of cases and of weights, up to a
// few too many.
func TestMixLoadsNumbers(t *testing.T) {
	for _, s := range loadedStructures() {
		for n := range 14 {
			for weights := range 14 {
				var cases [][]int
				for range n {
					cases = append(cases, repeated(2*len(s.Joints), 2))
				}
				want := n == weights && n <= 10
				if mustMix(t, s, cases, repeated(weights, 3)) != want || mustMix(t, s, cases, repeated(weights, 0)) != want {
					t.Errorf("%d cases with %d weights are not %v", n, weights, want)
				}
			}
		}
		if mustMix(t, s, make([][]int, 100000), make([]int, 100000)) {
			t.Error("very many cases are mixed")
		}
	}
}

// TestMixLoadsWeights has every weight near the limits, and far beyond them, at
// each of up to ten cases.
func TestMixLoadsWeights(t *testing.T) {
	weights := append(notComponents(), wrongNumbers(100)...)
	for n := -5; n <= 105; n++ {
		weights = append(weights, n)
	}
	s := triangle()
	for n := 1; n <= 10; n++ {
		for k := range n {
			for _, weight := range weights {
				want := weight >= 0 && weight <= 100
				list := withNumber(repeated(n, 0), k, weight)
				// A wrong weight is refused even if no force is multiplied by it, or
				// if its products wrap around to 0.
				for _, force := range []int{0, 1, -1} {
					cases := slices.Repeat([][]int{repeated(8, force)}, n)
					if mustMix(t, s, cases, list) != want {
						t.Errorf("the weight %d at %d of %d is not %v", weight, k, n, want)
					}
				}
				cases := slices.Repeat([][]int{repeated(8, 4)}, n)
				if mustMix(t, s, cases, list) != (weight >= 0 && weight <= 25) {
					t.Errorf("the load 4 with the weight %d at %d of %d is wrong", weight, k, n)
				}
			}
		}
	}
}

// TestMixLoadsSums has two cases with one force in one component, with all
// pairs of a few forces and weights.
func TestMixLoadsSums(t *testing.T) {
	forces := []int{-100, -99, -50, -2, -1, 0, 1, 2, 7, 50, 99, 100}
	weights := []int{-1, 0, 1, 2, 3, 50, 99, 100, 101}
	s := triangle()
	for i := range 8 {
		for _, a := range forces {
			for _, b := range forces {
				cases := [][]int{withNumber(repeated(8, 0), i, a), withNumber(repeated(8, 0), i, b)}
				for _, u := range weights {
					for _, v := range weights {
						mustMix(t, s, cases, []int{u, v})
					}
				}
			}
		}
	}
}

// TestMixLoadsOnTheWay has sums that are beyond the limits before the last case
// is added, which does not matter.
func TestMixLoadsOnTheWay(t *testing.T) {
	s := largest()
	most, least := repeated(12, 100), repeated(12, -100)
	for _, n := range []int{0, 1, 2, 50, 98, 99, 100} {
		cases := [][]int{most, most, most, most, least, least, least, least}
		weights := []int{100, 100, 100, n, 100, 100, 100, 100}
		if mustMix(t, s, cases, weights) != (n >= 99) {
			t.Errorf("with the weight %d, the sum is wrong", n)
		}
		slices.Reverse(cases)
		slices.Reverse(weights)
		mustMix(t, s, cases, weights)
	}
	// The greatest sums that are possible.
	for _, l := range [][]int{most, least} {
		for n := range 11 {
			mustMix(t, s, slices.Repeat([][]int{l}, n), repeated(n, 100))
		}
	}
	// Ten cases that together just reach the limit, or just do not.
	for _, n := range []int{9, 10, 11, -9, -10, -11} {
		cases := slices.Repeat([][]int{repeated(12, n)}, 10)
		if mustMix(t, s, cases, repeated(10, 1)) != (n > -11 && n < 11) {
			t.Errorf("ten times %d is wrong", n)
		}
		cases[7] = withNumber(cases[7], 5, n+1)
		mustMix(t, s, cases, repeated(10, 1))
	}
}

// TestMixLoadsWrongCase has one case that is no load, at each of up to ten
// cases, with every weight.
func TestMixLoadsWrongCase(t *testing.T) {
	s := triangle()
	for _, wrong := range notLoads(s, repeated(8, 0)) {
		for n := 1; n <= 10; n++ {
			for k := range n {
				cases := slices.Repeat([][]int{repeated(8, 1)}, n)
				cases[k] = wrong
				for _, weight := range []int{0, 1, 2} {
					if mustMix(t, s, cases, repeated(n, weight)) {
						t.Errorf("the case %s at %d of %d is mixed", brief(wrong), k, n)
					}
				}
			}
		}
	}
	// Two lists that together are as long as two loads.
	mustMix(t, s, [][]int{repeated(7, 1), repeated(9, 1)}, []int{1, 1})
	mustMix(t, s, [][]int{nil, repeated(16, 1)}, []int{1, 1})
}

func TestRandomMixes(t *testing.T) {
	random := rand.New(rand.NewSource(94))
	structures := loadedStructures()
	mixes := 0
	for k := range 30000 {
		s := structures[k%len(structures)]
		n := random.Intn(11)
		var cases [][]int
		for range n {
			cases = append(cases, randomLoad(random, s, []int{3, 10, 100}[random.Intn(3)]))
		}
		weights := make([]int, n)
		for i := range weights {
			weights[i] = random.Intn([]int{2, 4, 101}[random.Intn(3)])
		}
		if mustMix(t, s, cases, weights) {
			mixes++
		}
	}
	if mixes < 5000 || mixes > 25000 {
		t.Errorf("of 30000 mixes, %d are loads", mixes)
	}
}

// TestMixedSums checks that the totals and the moments of mixed loads are the
// mixed ones, and that neither the order nor the number of cases with one sum
// matters.
func TestMixedSums(t *testing.T) {
	random := rand.New(rand.NewSource(95))
	structures := loadedStructures()
	for k := range 6000 {
		s := structures[k%len(structures)]
		n := 1 + random.Intn(10)
		cases, weights := make([][]int, n), make([]int, n)
		x, y := random.Intn(2001)-1000, random.Intn(2001)-1000
		wantX, wantY, turn := 0, 0, 0
		for i := range n {
			cases[i], weights[i] = randomLoad(random, s, 3), random.Intn(4)
			totalX, totalY := impl.TotalOf(s, cases[i])
			wantX, wantY = wantX+weights[i]*totalX, wantY+weights[i]*totalY
			turn += weights[i] * impl.MomentOf(s, cases[i], x, y)
		}
		l, ok := impl.MixLoads(s, cases, weights)
		if gotX, gotY := impl.TotalOf(s, l); !ok || gotX != wantX || gotY != wantY || impl.MomentOf(s, l, x, y) != turn {
			t.Errorf("MixLoads(%s, %s, %s) is %s, %v", brief(s), brief(cases), brief(weights), brief(l), ok)
		}
		random.Shuffle(n, func(i, k int) {
			cases[i], cases[k] = cases[k], cases[i]
			weights[i], weights[k] = weights[k], weights[i]
		})
		again, ok := impl.MixLoads(s, cases, weights)
		mustReturn(t, again, ok, l, true)
		last, _ := impl.MixLoads(s, cases[n-1:], weights[n-1:])
		steps, _ := impl.MixLoads(s, cases[:n-1], weights[:n-1])
		steps, ok = impl.MixLoads(s, [][]int{steps, last}, []int{1, 1})
		mustReturn(t, steps, ok, l, true)
	}
}

// TestTotals has a force in each component alone.
func TestTotals(t *testing.T) {
	for _, s := range loadedStructures() {
		for i, j := range s.Joints {
			for _, n := range []int{-100, -1, 1, 8, 100} {
				across := withNumber(repeated(2*len(s.Joints), 0), 2*i, n)
				up := withNumber(repeated(2*len(s.Joints), 0), 2*i+1, n)
				x, y := impl.TotalOf(s, across)
				otherX, otherY := impl.TotalOf(s, up)
				if x != n || y != 0 || otherX != 0 || otherY != n {
					t.Errorf("the totals of %v and %v are %d, %d and %d, %d", across, up, x, y, otherX, otherY)
				}
				if impl.MomentOf(s, across, 0, 0) != -j.Y*n || impl.MomentOf(s, up, 0, 0) != j.X*n {
					t.Errorf("the moments of %v and %v are %d and %d", across, up, impl.MomentOf(s, across, 0, 0), impl.MomentOf(s, up, 0, 0))
				}
			}
		}
	}
}

// TestMoments has all pairs of a few places at the limits, within them and
// beyond them.
func TestMoments(t *testing.T) {
	random := rand.New(rand.NewSource(96))
	places := slices.Concat(pivots(), notPivots())
	for _, s := range loadedStructures() {
		n := 2 * len(s.Joints)
		for _, l := range [][]int{randomLoad(random, s, 100), repeated(n, 100), repeated(n, -100), repeated(n, 0), repeated(n+1, 1)} {
			for _, x := range places {
				for _, y := range places {
					mustTurn(t, s, l, x, y)
				}
			}
		}
	}
	for x := -1005; x <= 1005; x++ {
		mustTurn(t, largest(), repeated(12, 99), x, 13)
		mustTurn(t, largest(), repeated(12, 99), -13, x)
	}
	// About a point far outside, a force at each corner has the greatest moment.
	s := structureOf([]impl.Joint{joint("a", 50, 50)})
	if got := impl.MomentOf(s, []int{-100, 100}, -1000, -1000); got != 210000 {
		t.Errorf("the greatest moment is %d", got)
	}
}

func TestSameLoads(t *testing.T) {
	lists := [][]int{
		{0}, {1}, {-1}, {0, 0}, {0, 1}, {1, 0}, {1, 1}, {0, 0, 0}, {1, 2, 3}, {3, 2, 1}, {1, 2, 3, 4}, {101}, {-101, 5}, {100, -100},
		{256}, {1 << 32}, {1 << 32, 1}, {math.MinInt}, {math.MaxInt}, {math.MaxInt, math.MinInt}, repeated(12, 0), repeated(13, 0), repeated(500, 7),
	}
	for i, a := range lists {
		for k, b := range lists {
			mustBeSameLoads(t, a, slices.Clone(b), i == k)
		}
		// Neither the room behind a list nor what lies there is part of it.
		mustBeSameLoads(t, a, withRoom(a)[:len(a)], true)
		mustBeSameLoads(t, a, withRoom(a)[:len(a)+1], false)
		mustBeSameLoads(t, a, a[:len(a)-1], false)
		mustBeSameLoads(t, a, nil, false)
		mustBeSameLoads(t, a, []int{}, false)
		for j := range a {
			for _, n := range []int{1, -1, 1 << 8, 1 << 32, 1 << 62} {
				mustBeSameLoads(t, a, withNumber(a, j, a[j]^n), false)
			}
		}
	}
	mustBeSameLoads(t, nil, nil, true)
	mustBeSameLoads(t, nil, []int{}, true)
	mustBeSameLoads(t, []int{}, []int{}, true)
	mustBeSameLoads(t, nil, withRoom(nil)[:0], true)
}

// TestLoadMemory checks that arguments are kept, with the room behind them, and
// that results share no memory with them.
func TestLoadMemory(t *testing.T) {
	random := rand.New(rand.NewSource(97))
	for _, want := range append(notStructures(), loadedStructures()...) {
		s := roomyStructure(want)
		numbers, weights := randomLoad(random, s, 9), []int{1, 0, 2}
		l, kept := withRoom(numbers), withRoom(weights)
		// The list of cases has room behind it, and the same load twice.
		cases := [][]int{l[:len(numbers)], l[:len(numbers)], repeated(len(numbers), 4), {71, 72}}
		no, put, mix := loadResults(s, l[:len(numbers)], cases[:3], kept[:3])
		wantNo, wantPut, wantMix := slices.Clone(no), slices.Clone(put), slices.Clone(mix)
		otherNo, otherPut, otherMix := loadResults(s, l[:len(numbers)], cases[:3], kept[:3])
		mustWeigh(t, s, l[:len(numbers)])
		impl.SameLoads(l[:len(numbers)], cases[2])
		spoil(no)
		spoil(put)
		spoil(mix)
		if !structureIsKept(s, want) || !slices.Equal(l, withRoom(numbers)) || !slices.Equal(kept, withRoom(weights)) {
			t.Errorf("%s, %s or %s was changed", brief(s), brief(l), brief(kept))
		}
		if len(cases[0]) != len(numbers) || len(cases[1]) != len(numbers) || !slices.Equal(cases[2], repeated(len(numbers), 4)) || !slices.Equal(cases[3], []int{71, 72}) {
			t.Errorf("the cases were changed to %s", brief(cases))
		}
		spoil(l)
		spoil(kept)
		spoil(cases[2])
		spoilStructure(s)
		if !slices.Equal(otherNo, wantNo) || !slices.Equal(otherPut, wantPut) || !slices.Equal(otherMix, wantMix) {
			t.Errorf("with the arguments, the results were changed to %v, %v and %v", otherNo, otherPut, otherMix)
		}
	}
}

// loadResults are the loads that functions return.
func loadResults(s impl.Structure, l []int, cases [][]int, weights []int) ([]int, []int, []int) {
	put, _ := impl.PutLoad(s, l, 0, 0, 0)
	mix, _ := impl.MixLoads(s, cases, weights)
	return impl.NoLoad(s), put, mix
}

// TestLoadsAgain checks that no result depends on the calls before it.
func TestLoadsAgain(t *testing.T) {
	random := rand.New(rand.NewSource(98))
	for range 40 {
		for _, s := range loadedStructures() {
			l := randomLoad(random, s, 101)
			for range 3 {
				mustWeigh(t, s, l)
				mustPut(t, s, l, len(s.Joints)-1, 1, -1)
				mustMix(t, s, [][]int{l}, []int{1})
			}
		}
	}
}
