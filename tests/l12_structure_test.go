package tests

import (
	"math"
	"math/rand"
	"slices"
	"strings"
	"testing"

	"loop.example/g00830/impl"
)

// support and joint are joints that are fixed and that are not.
func support(name string, x, y int) impl.Joint {
	return impl.Joint{Name: name, X: x, Y: y, Fixed: true}
}

func joint(name string, x, y int) impl.Joint { return impl.Joint{Name: name, X: x, Y: y} }

func rope(a, b int) impl.Member  { return impl.Member{A: a, B: b, Kind: impl.MbRope} }
func strut(a, b int) impl.Member { return impl.Member{A: a, B: b, Kind: impl.MbStrut} }
func bar(a, b int) impl.Member   { return impl.Member{A: a, B: b, Kind: impl.MbBar} }

// structureOf is a structure with these lists, whether or not it is valid.
func structureOf(joints []impl.Joint, members ...impl.Member) impl.Structure {
	return impl.Structure{Joints: joints, Members: members}
}

// clonedStructure is the same structure in other memory.
func clonedStructure(s impl.Structure) impl.Structure {
	return structureOf(slices.Clone(s.Joints), slices.Clone(s.Members)...)
}

// sameStructure does not rely on SameStructures.
func sameStructure(a, b impl.Structure) bool {
	if len(a.Joints) != len(b.Joints) || len(a.Members) != len(b.Members) {
		return false
	}
	for i, j := range a.Joints {
		k := b.Joints[i]
		if j.Name != k.Name || j.X != k.X || j.Y != k.Y || j.Fixed != k.Fixed {
			return false
		}
	}
	for i, m := range a.Members {
		n := b.Members[i]
		if m.A != n.A || m.B != n.B || m.Kind != n.Kind {
			return false
		}
	}
	return true
}

// triangle is a joint that hangs from a rope and a bar and stands on a strut.
func triangle() impl.Structure {
	joints := []impl.Joint{support("a", -3, 0), support("b", 3, 0), joint("c", 0, -4), support("d", 0, -9)}
	return structureOf(joints, rope(0, 2), bar(2, 1), strut(3, 2))
}

// largest has as many joints and members as a structure may have.
func largest() impl.Structure {
	joints := []impl.Joint{
		support("a", -50, -50), joint("b2", 50, 50), joint("c", -50, 50),
		support("d4567890", 50, -50), joint("ee", 0, 1), joint("z", 0, 0),
	}
	members := []impl.Member{rope(0, 1), strut(1, 0), bar(5, 4), rope(4, 5), rope(2, 3), bar(1, 2), strut(3, 5), rope(3, 5)}
	return structureOf(joints, members...)
}

// withJoint and withMember are s with another joint or member at an index.
func withJoint(s impl.Structure, i int, j impl.Joint) impl.Structure {
	s = clonedStructure(s)
	s.Joints[i] = j
	return s
}

func withMember(s impl.Structure, k int, m impl.Member) impl.Structure {
	s = clonedStructure(s)
	s.Members[k] = m
	return s
}

// notNames do not satisfy IsName.
func notNames() []string {
	return []string{
		"", "1", "1x", "A", "aB", "a_b", "a b", " a", "a ", "a\n", "a:", "a-b", "a\x00", "abcdefghi",
		strings.Repeat("a", 300), "é", "aé", "a\xff", "\xe1", "ａ", "a٣",
	}
}

// notPlaces are beyond MaxPlace, also where their sum or negative wraps around.
func notPlaces() []int {
	return []int{
		-51, 51, 52, -52, 100, -100, 255, 256, -256, 1 << 16, 1 << 32, -1 << 32, 1<<32 + 7,
		math.MaxInt, math.MaxInt - 50, math.MinInt, math.MinInt + 1, math.MinInt + 50,
	}
}

// notIndices are no index of a list of n elements.
func notIndices(n int) []int {
	return []int{-1, -2, -n, -n - 1, n, n + 1, 2 * n, 256, 1 << 32, -1 << 32, 1<<32 + n, math.MaxInt, math.MinInt}
}

// notKinds are no kind of a member.
func notKinds() []int {
	return []int{0, 4, -1, -2, -3, 5, 257, -255, 1<<32 + 1, math.MaxInt, math.MinInt, math.MinInt + 1}
}

// invalidMembers are largest with one member that it may not have.
func invalidMembers() []impl.Structure {
	var list []impl.Structure
	s := largest()
	for k := range s.Members {
		m := s.Members[k]
		// The ground does not hold itself, and no joint holds itself.
		wrong := []impl.Member{{A: 0, B: 3, Kind: m.Kind}, {A: 3, B: 0, Kind: m.Kind}}
		for i := range s.Joints {
			wrong = append(wrong, impl.Member{A: i, B: i, Kind: m.Kind})
		}
		for _, i := range notIndices(len(s.Joints)) {
			if i != 0 {
				wrong = append(wrong, impl.Member{A: i, B: m.B, Kind: m.Kind}, impl.Member{A: m.A, B: i, Kind: m.Kind}, impl.Member{A: i, B: i, Kind: m.Kind})
			}
		}
		for _, kind := range notKinds() {
			wrong = append(wrong, impl.Member{A: m.A, B: m.B, Kind: kind})
		}
		for _, m := range wrong {
			list = append(list, withMember(s, k, m))
		}
	}
	return list
}

// invalidJoints are largest with one joint that it may not have.
func invalidJoints() []impl.Structure {
	var list []impl.Structure
	s := largest()
	for i, j := range s.Joints {
		var wrong []impl.Joint
		for _, name := range notNames() {
			wrong = append(wrong, impl.Joint{Name: name, X: j.X, Y: j.Y, Fixed: j.Fixed})
		}
		for _, n := range notPlaces() {
			wrong = append(wrong, impl.Joint{Name: j.Name, X: n, Y: j.Y, Fixed: j.Fixed}, impl.Joint{Name: j.Name, X: j.X, Y: n, Fixed: j.Fixed})
		}
		for k, other := range s.Joints {
			if k != i {
				wrong = append(wrong, impl.Joint{Name: other.Name, X: j.X, Y: j.Y, Fixed: j.Fixed})
			}
		}
		for _, j := range wrong {
			list = append(list, withJoint(s, i, j))
		}
	}
	return list
}

// notStructures are not valid.
func notStructures() []impl.Structure {
	s := largest()
	list := slices.Concat(invalidMembers(), invalidJoints())
	return append(list,
		// One joint or one member too many.
		structureOf(append(s.Joints, joint("f", 7, 7)), s.Members...),
		structureOf(append(s.Joints, joint("f", 7, 7))),
		structureOf(s.Joints, append(s.Members, rope(0, 1))...),
		// The joints of a member have come to one place, or are both fixed.
		withJoint(s, 4, joint("ee", 0, 0)),
		withJoint(s, 1, support("b2", 50, 50)),
		// Without members, the joints still have to be valid.
		structureOf([]impl.Joint{joint("", 0, 0)}),
		structureOf([]impl.Joint{joint("a", 0, 0), joint("a", 1, 0)}),
		structureOf(nil, rope(0, 0)),
		structureOf(nil, rope(0, 1)),
		structureOf([]impl.Joint{joint("a", 0, 0)}, rope(0, 1)),
		structureOf(make([]impl.Joint, 7)),
		structureOf(make([]impl.Joint, 3000)),
		structureOf(s.Joints, make([]impl.Member, 3000)...),
		structureOf(nil, make([]impl.Member, 1)...),
	)
}

// isValid is StructureOk by comparing all pairs.
func isValid(s impl.Structure) bool {
	if len(s.Joints) > 6 || len(s.Members) > 8 {
		return false
	}
	for i, j := range s.Joints {
		if !impl.IsName(j.Name) || j.X < -50 || j.X > 50 || j.Y < -50 || j.Y > 50 {
			return false
		}
		for _, other := range s.Joints[:i] {
			if other.Name == j.Name {
				return false
			}
		}
	}
	for _, m := range s.Members {
		if m.A < 0 || m.A >= len(s.Joints) || m.B < 0 || m.B >= len(s.Joints) || m.Kind < 1 || m.Kind > 3 {
			return false
		}
		a, b := s.Joints[m.A], s.Joints[m.B]
		if a.X == b.X && a.Y == b.Y || a.Fixed && b.Fixed {
			return false
		}
	}
	return true
}

// firstNamed is JointNamed by looking at one joint after the other.
func firstNamed(s impl.Structure, name string) int {
	for i, j := range s.Joints {
		if j.Name == name {
			return i
		}
	}
	return -1
}

// remaining is WithoutMembers by looking for every member in the list.
func remaining(s impl.Structure, list []int) impl.Structure {
	rest := structureOf(s.Joints)
	for k, m := range s.Members {
		if !slices.Contains(list, k) {
			rest.Members = append(rest.Members, m)
		}
	}
	return rest
}

// mustDescribe compares what the functions return for a structure with what its
// fields say. It reports whether the structure is valid.
func mustDescribe(t *testing.T, s impl.Structure) bool {
	t.Helper()
	valid := isValid(s)
	if impl.StructureOk(s) != valid {
		t.Errorf("StructureOk(%s) is %v", brief(s), !valid)
	}
	var free []int
	for i, j := range s.Joints {
		if valid && !j.Fixed {
			free = append(free, i)
		}
	}
	if got := impl.FreeJoints(s); !slices.Equal(got, free) {
		t.Errorf("FreeJoints(%s) is %v, not %v", brief(s), got, free)
	}
	for k := -2; k < len(s.Members)+3; k++ {
		x, y := 0, 0
		if valid && k >= 0 && k < len(s.Members) {
			a, b := s.Joints[s.Members[k].A], s.Joints[s.Members[k].B]
			x, y = b.X-a.X, b.Y-a.Y
		}
		mustHaveVector(t, s, k, x, y)
	}
	return valid
}

func mustHaveVector(t *testing.T, s impl.Structure, k, x, y int) {
	t.Helper()
	if gotX, gotY := impl.VectorOf(s, k); gotX != x || gotY != y {
		t.Errorf("VectorOf(%s, %d) is %d, %d, not %d, %d", brief(s), k, gotX, gotY, x, y)
	}
	if got := impl.SquareOf(s, k); got != x*x+y*y {
		t.Errorf("SquareOf(%s, %d) is %d, not %d", brief(s), k, got, x*x+y*y)
	}
}

// mustFind compares JointNamed with firstNamed.
func mustFind(t *testing.T, s impl.Structure, name string) {
	t.Helper()
	if got, want := impl.JointNamed(s, name), firstNamed(s, name); got != want {
		t.Errorf("JointNamed(%s, %.40q) is %d, not %d", brief(s), name, got, want)
	}
}

// mustRemain compares WithoutMembers with remaining.
func mustRemain(t *testing.T, s impl.Structure, list []int) impl.Structure {
	t.Helper()
	got, want := impl.WithoutMembers(s, list), remaining(s, list)
	if !sameStructure(got, want) {
		t.Errorf("WithoutMembers(%s, %s) is %s, not %s", brief(s), brief(list), brief(got), brief(want))
	}
	return got
}

// mustBeSame checks SameStructures in both orders.
func mustBeSame(t *testing.T, a, b impl.Structure, want bool) {
	t.Helper()
	if impl.SameStructures(a, b) != want || impl.SameStructures(b, a) != want {
		t.Errorf("SameStructures(%s, %s) is not %v in both orders", brief(a), brief(b), want)
	}
}

// randomJoints are n joints, most of them valid: of a few names and places, so
// that some of them are equal.
func randomJoints(random *rand.Rand, n int) []impl.Joint {
	names := []string{"a", "b", "c", "d", "e", "f", "g", "h", "a1", "abcdefgh"}
	random.Shuffle(len(names), func(i, k int) { names[i], names[k] = names[k], names[i] })
	joints := make([]impl.Joint, n)
	for i := range joints {
		joints[i] = impl.Joint{Name: names[i%len(names)], X: random.Intn(4) * 25, Y: 25 - random.Intn(4)*25, Fixed: random.Intn(3) == 0}
		switch random.Intn(60) {
		case 0:
			joints[i].Name = names[random.Intn(len(names))]
		case 1:
			joints[i].Name = notNames()[random.Intn(21)]
		case 2:
			joints[i].X = 49 + random.Intn(4)
		case 3:
			joints[i].Y = -49 - random.Intn(4)
		}
	}
	return joints
}

// randomStructure has members of which most are valid.
func randomStructure(random *rand.Rand, joints, members int) impl.Structure {
	s := structureOf(randomJoints(random, joints))
	for range members {
		m := impl.Member{A: random.Intn(joints + 1), B: random.Intn(joints + 1), Kind: 1 + random.Intn(3)}
		// Most members connect joints that may be connected.
		for range 20 {
			if isValid(structureOf(s.Joints, m)) {
				break
			}
			m.A, m.B = random.Intn(joints+1), random.Intn(joints+1)
		}
		if random.Intn(60) == 0 {
			m.Kind = notKinds()[random.Intn(12)]
		}
		s.Members = append(s.Members, m)
	}
	return s
}

func TestStructureConstants(t *testing.T) {
	if impl.MaxJoints != 6 || impl.MaxMembers != 8 || impl.MaxPlace != 50 {
		t.Errorf("the limits are %d, %d and %d", impl.MaxJoints, impl.MaxMembers, impl.MaxPlace)
	}
	if impl.MbRope != 1 || impl.MbStrut != 2 || impl.MbBar != 3 {
		t.Errorf("the kinds are %d, %d and %d", impl.MbRope, impl.MbStrut, impl.MbBar)
	}
}

func TestJointOk(t *testing.T) {
	names := append(notNames(), "a", "z", "a0z9", "abcdefgh", "z1234567")
	for _, b := range []byte(allBytes()) {
		names = append(names, string([]byte{b}), string([]byte{'n', b}), string([]byte{'n', b, 'n'}))
	}
	for _, name := range names {
		for _, fixed := range []bool{false, true} {
			if got := impl.JointOk(impl.Joint{Name: name, X: -50, Y: 50, Fixed: fixed}); got != impl.IsName(name) {
				t.Errorf("JointOk with the name %.40q is %v", name, got)
			}
		}
	}
	if impl.JointOk(impl.Joint{}) {
		t.Error("JointOk of the zero value is true")
	}
}

func TestJointPlaces(t *testing.T) {
	places := notPlaces()
	for n := -60; n <= 60; n++ {
		places = append(places, n)
	}
	for _, x := range places {
		for _, y := range places {
			want := x >= -50 && x <= 50 && y >= -50 && y <= 50
			if impl.JointOk(joint("a", x, y)) != want || impl.JointOk(support("a", x, y)) != want {
				t.Errorf("JointOk at %d, %d is not %v", x, y, want)
			}
		}
	}
}

func TestStructureExamples(t *testing.T) {
	s := triangle()
	if !impl.StructureOk(s) || !slices.Equal(impl.FreeJoints(s), []int{2}) {
		t.Errorf("StructureOk is %v, and FreeJoints is %v", impl.StructureOk(s), impl.FreeJoints(s))
	}
	mustHaveVector(t, s, 0, 3, -4)
	mustHaveVector(t, s, 1, 3, 4)
	mustHaveVector(t, s, 2, 0, 5)
	mustHaveVector(t, s, 3, 0, 0)
	if impl.SquareOf(s, 0) != 25 || impl.JointNamed(s, "d") != 3 || impl.JointNamed(s, "e") != -1 {
		t.Errorf("the square is %d, and the joints are %d and %d", impl.SquareOf(s, 0), impl.JointNamed(s, "d"), impl.JointNamed(s, "e"))
	}
	want := structureOf(triangle().Joints, bar(2, 1))
	if got := impl.WithoutMembers(s, []int{2, 0}); !impl.SameStructures(got, want) || !sameStructure(got, want) {
		t.Errorf("WithoutMembers is %v", got)
	}
	most := largest()
	if !mustDescribe(t, most) || !slices.Equal(impl.FreeJoints(most), []int{1, 2, 4, 5}) {
		t.Errorf("FreeJoints(%v) is %v", most, impl.FreeJoints(most))
	}
	// Members may join the same joints, in any order.
	mustHaveVector(t, most, 0, 100, 100)
	mustHaveVector(t, most, 1, -100, -100)
	mustHaveVector(t, most, 2, 0, 1)
	if impl.SquareOf(most, 0) != 20000 {
		t.Errorf("the square of the longest member is %d", impl.SquareOf(most, 0))
	}
}

func TestStructuresThatAreNotValid(t *testing.T) {
	for _, s := range notStructures() {
		if mustDescribe(t, s) {
			t.Errorf("%s is valid", brief(s))
		}
	}
}

// TestStructureSizes has valid joints and members of all numbers up to a few
// too many.
func TestStructureSizes(t *testing.T) {
	for joints := range 10 {
		for members := range 12 {
			var s impl.Structure
			for i := range joints {
				s.Joints = append(s.Joints, joint(string(rune('a'+i)), i, -i))
			}
			for k := range members {
				s.Members = append(s.Members, impl.Member{A: k % max(joints, 1), B: (k + 1) % max(joints, 1), Kind: k%3 + 1})
			}
			want := joints <= 6 && members <= 8 && (members == 0 || joints >= 2)
			if mustDescribe(t, s) != want {
				t.Errorf("with %d joints and %d members, a structure is not %v", joints, members, want)
			}
		}
	}
}

// TestEmptyStructures are valid without members or joints, whether their lists
// are nil or empty.
func TestEmptyStructures(t *testing.T) {
	for _, s := range []impl.Structure{{}, {Joints: []impl.Joint{}}, {Members: []impl.Member{}}, {Joints: []impl.Joint{}, Members: []impl.Member{}}} {
		if !mustDescribe(t, s) || !impl.SameStructures(s, impl.Structure{}) || !impl.SameStructures(impl.Structure{}, s) {
			t.Errorf("%#v is not the empty structure", s)
		}
		mustFind(t, s, "")
		mustFind(t, s, "a")
		mustRemain(t, s, nil)
		mustRemain(t, s, []int{0, -1, 1})
	}
	// Joints may have the same place if no member joins them.
	joints := []impl.Joint{joint("a", 0, 0), joint("b", 0, 0), support("c", 0, 0), support("d", 0, 0)}
	if !mustDescribe(t, structureOf(joints)) {
		t.Error("joints with the same place are refused")
	}
}

// TestPairsOfJoints has one member between two joints of every kind of place,
// name and support.
func TestPairsOfJoints(t *testing.T) {
	var joints []impl.Joint
	for _, name := range []string{"a", "b", "", "B"} {
		for _, place := range [][2]int{{0, 0}, {0, 1}, {1, 0}, {-50, 50}, {0, -51}} {
			joints = append(joints, joint(name, place[0], place[1]), support(name, place[0], place[1]))
		}
	}
	for _, a := range joints {
		for _, b := range joints {
			s := structureOf([]impl.Joint{a, b})
			mustDescribe(t, s)
			for kind := 0; kind <= 4; kind++ {
				s.Members = []impl.Member{{A: 0, B: 1, Kind: kind}}
				mustDescribe(t, s)
				s.Members = []impl.Member{{A: 1, B: 0, Kind: kind}, {A: 0, B: 1, Kind: 4 - kind}}
				mustDescribe(t, s)
			}
			mustFind(t, s, a.Name)
			mustFind(t, s, b.Name)
			mustFind(t, s, "c")
		}
	}
}

// TestEndsOfMembers has one member between every two numbers, in a structure
// with every number of joints.
func TestEndsOfMembers(t *testing.T) {
	for joints := range 7 {
		for a := -2; a <= 8; a++ {
			for b := -2; b <= 8; b++ {
				s := structureOf(largest().Joints[:joints], bar(a, b))
				mustDescribe(t, s)
				s = structureOf(triangle().Joints[:min(joints, 4)], strut(a, b))
				mustDescribe(t, s)
			}
		}
	}
}

func TestRandomStructures(t *testing.T) {
	random := rand.New(rand.NewSource(81))
	valid := 0
	for k := range 20000 {
		s := randomStructure(random, k%8, k/8%10)
		if mustDescribe(t, s) {
			valid++
		}
		for _, name := range []string{"a", "b", "h", "abcdefgh", "abcdefg", "z", ""} {
			mustFind(t, s, name)
		}
		mustRemain(t, s, []int{random.Intn(10) - 1, random.Intn(10) - 1, random.Intn(10) - 1})
	}
	if valid < 2000 || valid > 18000 {
		t.Errorf("of 20000 structures, %d are valid", valid)
	}
}

// TestFreeJoints has all choices of the joints that are fixed.
func TestFreeJoints(t *testing.T) {
	for n := range 7 {
		for fixed := range 1 << n {
			s := structureOf(slices.Clone(largest().Joints[:n]))
			var want []int
			for i := range n {
				s.Joints[i].Fixed = fixed>>i&1 == 1
				if !s.Joints[i].Fixed {
					want = append(want, i)
				}
			}
			if got := impl.FreeJoints(s); !slices.Equal(got, want) {
				t.Errorf("FreeJoints(%v) is %v, not %v", s, got, want)
			}
		}
	}
}

// TestVectorsOutside has numbers of members that are none.
func TestVectorsOutside(t *testing.T) {
	for _, s := range []impl.Structure{{}, triangle(), largest(), structureOf(largest().Joints)} {
		for _, k := range notIndices(len(s.Members)) {
			if k < 0 || k >= len(s.Members) {
				mustHaveVector(t, s, k, 0, 0)
			}
		}
	}
}

// TestVectorsOfPlaces has members between all places at the limits and in the
// middle.
func TestVectorsOfPlaces(t *testing.T) {
	places := []int{-50, -49, -7, -1, 0, 1, 8, 49, 50}
	for _, ax := range places {
		for _, ay := range places {
			for _, bx := range places {
				for _, by := range places {
					s := structureOf([]impl.Joint{joint("a", ax, ay), support("b", bx, by)}, rope(0, 1), bar(1, 0))
					if ax != bx || ay != by {
						mustHaveVector(t, s, 0, bx-ax, by-ay)
						mustHaveVector(t, s, 1, ax-bx, ay-by)
					} else {
						mustDescribe(t, s)
					}
				}
			}
		}
	}
}

func TestJointNamed(t *testing.T) {
	// Names that are none are found as well, byte by byte.
	names := append(notNames(), "a", "b2", "z", "abcdefgh", "abcdefg", "\xff", "\xfe", "\uFFFD", "a\x00b", "É", "e\u0301")
	var s impl.Structure
	for i, name := range names {
		s.Joints = append(s.Joints, joint(name, i, 0))
	}
	for i, name := range names {
		if got := impl.JointNamed(s, name); got != i {
			t.Errorf("JointNamed of %.40q is %d, not %d", name, got, i)
		}
		// Each name occurs again, behind and before the others.
		twice := structureOf(slices.Concat(s.Joints, s.Joints))
		if got := impl.JointNamed(twice, name); got != i {
			t.Errorf("JointNamed of %.40q, which occurs twice, is %d, not %d", name, got, i)
		}
		first := structureOf(append([]impl.Joint{support(name, 51, -51)}, s.Joints...))
		if got := impl.JointNamed(first, name); got != 0 {
			t.Errorf("JointNamed of %.40q, which is also the first name, is %d", name, got)
		}
		without := structureOf(slices.Delete(slices.Clone(s.Joints), i, i+1))
		if got := impl.JointNamed(without, name); got != -1 {
			t.Errorf("JointNamed of %.40q, which does not occur, is %d", name, got)
		}
	}
	for _, name := range []string{"Z", "b", "b22", " z", "z ", "zz", "ab", "\xfd", "z\x00", "é ", "e"} {
		if got := impl.JointNamed(s, name); got != -1 {
			t.Errorf("JointNamed of %q is %d", name, got)
		}
	}
}

// TestJointNamedOfInvalid finds joints also where members or places are wrong,
// or where there are too many of them.
func TestJointNamedOfInvalid(t *testing.T) {
	for _, s := range notStructures() {
		for _, j := range s.Joints[:min(len(s.Joints), 10)] {
			mustFind(t, s, j.Name)
		}
		for _, name := range []string{"", "a", "b2", "f", "nobody"} {
			mustFind(t, s, name)
		}
	}
	var s impl.Structure
	for i := range 5000 {
		s.Joints = append(s.Joints, joint("n"+impl.FormatInt(i%2000), 0, 0))
	}
	for _, i := range []int{0, 1, 6, 7, 1000, 1999, 2000} {
		mustFind(t, s, "n"+impl.FormatInt(i))
	}
}

func TestKindName(t *testing.T) {
	names := map[int]string{1: "rope", 2: "strut", 3: "bar"}
	kinds := notKinds()
	for kind := -600; kind <= 600; kind++ {
		kinds = append(kinds, kind)
	}
	for k := range 63 {
		kinds = append(kinds, 1<<k, 1<<k+1, 1<<k+2, 1<<k+3, -(1 << k), 1-1<<k, 3-1<<k)
	}
	for _, kind := range kinds {
		if got := impl.KindName(kind); got != names[kind] {
			t.Errorf("KindName(%d) is %q, not %q", kind, got, names[kind])
		}
	}
}

// TestWithoutMembers removes all subsets of the members, in several orders and
// with elements that are no members or that occur again.
func TestWithoutMembers(t *testing.T) {
	random := rand.New(rand.NewSource(82))
	s := largest()
	for _, list := range subsets(len(s.Members)) {
		rest := mustRemain(t, s, list)
		if !impl.StructureOk(rest) || len(rest.Members) != len(s.Members)-len(list) {
			t.Errorf("without the members %v, it is %v", list, rest)
		}
		reversed := slices.Clone(list)
		slices.Reverse(reversed)
		more := slices.Concat(list, notIndices(len(s.Members)), reversed)
		random.Shuffle(len(more), func(i, k int) { more[i], more[k] = more[k], more[i] })
		// A number below 0 does not count from the end.
		mustRemain(t, s, []int{-1, -8})
		mustRemain(t, s, reversed)
		mustRemain(t, s, more)
		if !impl.SameStructures(impl.WithoutMembers(s, more), impl.WithoutMembers(s, append(list, math.MaxInt))) {
			t.Errorf("the lists %v and %v do not remove the same", list, more)
		}
	}
	mustBeSame(t, impl.WithoutMembers(s, nil), s, true)
	mustBeSame(t, impl.WithoutMembers(s, []int{}), s, true)
	mustBeSame(t, impl.WithoutMembers(s, firstIndices(8)), structureOf(s.Joints), true)
}

// TestWithoutMembersOfInvalid also has lists that are longer than any structure.
func TestWithoutMembersOfInvalid(t *testing.T) {
	for _, s := range notStructures() {
		for _, list := range [][]int{nil, {0}, {7}, {8}, {-1}, {3, 1}, {1, 1, 0}, {2999, 5}, firstIndices(9), firstIndices(3001)} {
			rest := mustRemain(t, s, list)
			// It may have become valid.
			mustDescribe(t, rest)
		}
	}
	var s impl.Structure
	for k := range 200000 {
		s.Members = append(s.Members, rope(k, -k))
	}
	list := firstIndices(200000)
	slices.Reverse(list)
	if got := impl.WithoutMembers(s, list[:199999]); len(got.Members) != 1 || got.Members[0] != rope(0, 0) {
		t.Errorf("%d members are left", len(got.Members))
	}
	if got := impl.WithoutMembers(s, list); len(got.Members) != 0 {
		t.Errorf("%d members are left", len(got.Members))
	}
}

// TestWithoutMembersLaws removes in two steps what it also removes in one.
func TestWithoutMembersLaws(t *testing.T) {
	for k := range 8 {
		for m := range 8 {
			one := impl.WithoutMembers(largest(), []int{k})
			// What followed the removed member has moved.
			next := m
			if m > k {
				next = m - 1
			}
			if m != k {
				mustBeSame(t, impl.WithoutMembers(one, []int{next}), impl.WithoutMembers(largest(), []int{m, k}), true)
			}
		}
	}
}

// variations are structures that differ from s in one field or element.
func variations(s impl.Structure) []impl.Structure {
	var list []impl.Structure
	for i, j := range s.Joints {
		for _, other := range []impl.Joint{
			{Name: j.Name + "x", X: j.X, Y: j.Y, Fixed: j.Fixed}, {Name: "", X: j.X, Y: j.Y, Fixed: j.Fixed},
			{Name: j.Name, X: j.X + 1, Y: j.Y, Fixed: j.Fixed}, {Name: j.Name, X: j.X, Y: j.Y - 1, Fixed: j.Fixed},
			{Name: j.Name, X: j.X + 1<<32, Y: j.Y, Fixed: j.Fixed}, {Name: j.Name, X: j.X, Y: j.Y, Fixed: !j.Fixed},
		} {
			list = append(list, withJoint(s, i, other))
		}
		list = append(list, structureOf(slices.Delete(slices.Clone(s.Joints), i, i+1), s.Members...))
	}
	for k, m := range s.Members {
		for _, other := range []impl.Member{
			{A: m.A + 1, B: m.B, Kind: m.Kind}, {A: m.A, B: m.B - 1, Kind: m.Kind}, {A: m.B, B: m.A, Kind: m.Kind},
			{A: m.A, B: m.B, Kind: m.Kind + 1}, {A: m.A, B: m.B, Kind: m.Kind + 256},
		} {
			list = append(list, withMember(s, k, other))
		}
		list = append(list, structureOf(s.Joints, slices.Delete(slices.Clone(s.Members), k, k+1)...))
	}
	return append(list,
		structureOf(append(slices.Clone(s.Joints), impl.Joint{}), s.Members...),
		structureOf(s.Joints, append(slices.Clone(s.Members), impl.Member{})...))
}

func TestSameStructures(t *testing.T) {
	for _, s := range append(notStructures(), triangle(), largest(), structureOf(largest().Joints), impl.Structure{}) {
		mustBeSame(t, s, s, true)
		mustBeSame(t, s, clonedStructure(s), true)
		mustBeSame(t, s, structureOf(append(slices.Clone(s.Joints), joint("behind", 1, 2))[:len(s.Joints)], s.Members...), true)
	}
	wrong := withJoint(withMember(largest(), 3, impl.Member{A: -1, B: 9, Kind: 7}), 2, joint("a name", 99, -99))
	for _, s := range []impl.Structure{triangle(), largest(), wrong, {}} {
		all := variations(s)
		for _, other := range all {
			mustBeSame(t, s, other, false)
		}
		for _, a := range all {
			for _, b := range all {
				mustBeSame(t, a, b, sameStructure(a, b))
			}
		}
	}
	// The order of the joints and the members matters.
	s := largest()
	slices.Reverse(s.Members)
	mustBeSame(t, s, largest(), false)
	s = structureOf([]impl.Joint{joint("b", 1, 0), joint("a", 0, 0)})
	mustBeSame(t, s, structureOf([]impl.Joint{joint("a", 0, 0), joint("b", 1, 0)}), false)
	// Fields of joints do not stand for each other.
	mustBeSame(t, structureOf([]impl.Joint{joint("a", 1, 2)}), structureOf([]impl.Joint{joint("a", 2, 1)}), false)
}

// roomyStructure is the same structure with room behind its lists.
func roomyStructure(s impl.Structure) impl.Structure {
	joints := append(slices.Clone(s.Joints), joint("behind", 71, 72), support("it", 73, 74))
	members := append(slices.Clone(s.Members), rope(75, 76), bar(77, 78))
	return structureOf(joints[:len(s.Joints)], members[:len(s.Members)]...)
}

// structureIsKept reports whether a roomyStructure of want is as it was.
func structureIsKept(s, want impl.Structure) bool {
	joints, members := len(want.Joints)+2, len(want.Members)+2
	fresh := roomyStructure(want)
	return slices.Equal(s.Joints[:joints], fresh.Joints[:joints]) && slices.Equal(s.Members[:members], fresh.Members[:members])
}

// spoilStructure overwrites all elements of the lists and the room behind them.
func spoilStructure(s impl.Structure) {
	for i := range cap(s.Joints) {
		s.Joints[:cap(s.Joints)][i] = joint("spoiled", -99, 99)
	}
	for k := range cap(s.Members) {
		s.Members[:cap(s.Members)][k] = bar(-99, 99)
	}
}

// TestStructureMemory checks that arguments are kept, with the room behind them,
// and that results share no memory with them.
func TestStructureMemory(t *testing.T) {
	structures := append(notStructures(), triangle(), largest(), structureOf(largest().Joints), impl.Structure{})
	for _, want := range structures {
		s := roomyStructure(want)
		numbers := []int{5, 0, 0, -1, 2, 9}
		list, rest := withRoom(numbers), remaining(want, numbers)
		first, second := impl.WithoutMembers(s, list[:6]), impl.WithoutMembers(s, list[:6])
		all := impl.WithoutMembers(s, nil)
		free, again := impl.FreeJoints(s), impl.FreeJoints(s)
		mustDescribe(t, s)
		impl.JointNamed(s, "a")
		impl.SameStructures(s, s)
		spoilStructure(first)
		spoilStructure(all)
		spoil(free[:cap(free)])
		if !structureIsKept(s, want) || !slices.Equal(list, withRoom(numbers)) {
			t.Errorf("%s was changed to %s", brief(want), brief(s))
		}
		if !sameStructure(second, rest) || !slices.Equal(again, impl.FreeJoints(want)) {
			t.Errorf("a result of %s was changed to %s and %v", brief(want), brief(second), again)
		}
		spoilStructure(s)
		if !sameStructure(second, rest) {
			t.Errorf("with its argument %s, the result was changed to %s", brief(want), brief(second))
		}
	}
}

// TestStructuresAgain checks that results depend on nothing else, such as the
// order in which the names of joints are looked at.
func TestStructuresAgain(t *testing.T) {
	random := rand.New(rand.NewSource(83))
	for k := range 300 {
		s := randomStructure(random, 2+k%5, k%9)
		valid, index := isValid(s), firstNamed(s, "a")
		for range 30 {
			if impl.StructureOk(s) != valid || impl.JointNamed(s, "a") != index {
				t.Errorf("StructureOk or JointNamed of %s changes", brief(s))
			}
		}
	}
}
