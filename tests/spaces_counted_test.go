package tests

import (
	"cmp"
	"math/rand"
	"slices"
	"testing"

	"loop.example/poolfiles/impl"
)

// refTo is a pointer to a row, with a birth.
func refTo(at, birth int) impl.Ptr {
	return impl.Ptr{At: at, Birth: birth, Size: 1 + (at+birth)%128, Sum: at*7919 + birth, Level: birth % 3}
}

// refsTo returns pointers to a row, with births.
func refsTo(at int, births ...int) []impl.Ptr {
	list := []impl.Ptr{}
	for _, birth := range births {
		list = append(list, refTo(at, birth))
	}
	return list
}

// allBirths returns all groups in which a reference can be made, ascending.
func allBirths() []int {
	list := []int{}
	for txg := 1; txg <= 900; txg++ {
		list = append(list, txg)
	}
	return list
}

// countedByHand returns the space that counts the references of a list of valid pointers, in another way than the program does: sorted, row by row.
func countedByHand(list []impl.Ptr) (impl.Space, bool) {
	sorted := slices.Clone(list)
	slices.SortFunc(sorted, func(p, q impl.Ptr) int {
		return cmp.Or(cmp.Compare(p.At, q.At), cmp.Compare(p.Birth, q.Birth))
	})
	s := emptySpace()
	for i, p := range sorted {
		switch {
		case p == impl.Ptr{}:
			continue
		case i > 0 && sorted[i-1].At == p.At && sorted[i-1].Birth == p.Birth:
			return impl.Space{}, false
		}
		s.Refs[p.At]++
		s.Last[p.At] = p.Birth
	}
	return s, true
}

// manyRefs returns pointers that a seed tells, some of them holes, no two to one row with the same birth.
func manyRefs(seed int64, many int) []impl.Ptr {
	random := rand.New(rand.NewSource(seed))
	list := []impl.Ptr{}
	there := map[[2]int]bool{}
	for range many {
		at, birth := 8+random.Intn(56), 1+random.Intn(900)
		if seed%2 == 1 {
			at = 60 + random.Intn(4)
		}
		switch {
		case random.Intn(5) == 0:
			list = append(list, impl.Ptr{})
		case !there[[2]int{at, birth}]:
			there[[2]int{at, birth}] = true
			list = append(list, refTo(at, birth))
		}
	}
	return list
}

// countedLists returns lists of valid pointers, no two of which have the same row and the same birth.
func countedLists() [][]impl.Ptr {
	all := []impl.Ptr{}
	for _, at := range blockRows() {
		all = append(all, refTo(at, 7))
	}
	down := allBirths()
	slices.Reverse(down)
	lists := [][]impl.Ptr{
		nil, {}, {{}}, {{}, {}, {}}, {leastPointer}, {topPointer}, {leastPointer, topPointer}, {topPointer, {}, leastPointer}, {{}, topPointer},
		refsTo(8, 1), refsTo(8, 900), refsTo(63, 1), refsTo(63, 900), refsTo(63, 1, 2), refsTo(63, 2, 1), refsTo(63, 900, 899, 1), refsTo(8, 5, 900, 6),
		refsTo(30, 1, 900, 2, 899), all, append([]impl.Ptr{{}}, all...), refsTo(8, allBirths()...), refsTo(63, down...),
		append(refsTo(62, down...), refsTo(63, allBirths()...)...),
	}
	for seed := range int64(30) {
		lists = append(lists, manyRefs(seed, 1+int(seed)*9))
	}
	return lists
}

// refsIn returns how many references space counts.
func refsIn(s impl.Space) int {
	sum := 0
	for _, refs := range s.Refs {
		sum += refs
	}
	return sum
}

func TestP49ReferencesAreCounted(t *testing.T) {
	for i, list := range countedLists() {
		want, _ := countedByHand(list)
		many := len(slices.DeleteFunc(slices.Clone(list), func(p impl.Ptr) bool { return p == impl.Ptr{} }))
		s, ok := impl.SpaceOf(list)
		if !ok || !sameSpace(s, want) {
			t.Errorf("SpaceOf of list %d is %v, %v instead of %v", i, s, ok, want)
		}
		if !impl.SpaceOk(s) || refsIn(s) != many {
			t.Errorf("SpaceOf of list %d is not valid, or has %d references instead of %d", i, refsIn(s), many)
		}
	}
}

func TestP49SpaceOfSomePointers(t *testing.T) {
	cases := []struct {
		list []impl.Ptr
		want impl.Space
	}{
		{nil, emptySpace()},
		{make([]impl.Ptr, 9), emptySpace()},
		{refsTo(8, 1), spaceWith(usedRow{8, 1, 1})},
		{refsTo(63, 900), spaceWith(usedRow{63, 1, 900})},
		{refsTo(63, 17, 900, 3), spaceWith(usedRow{63, 3, 900})},
		{[]impl.Ptr{refTo(63, 5), {}, refTo(8, 5), refTo(63, 4)}, spaceWith(usedRow{8, 1, 5}, usedRow{63, 2, 5})},
		{refsTo(63, allBirths()...), spaceWith(usedRow{63, 900, 900})},
		{refsTo(20, allBirths()[:450]...), spaceWith(usedRow{20, 450, 450})},
	}
	for _, c := range cases {
		if s, ok := impl.SpaceOf(c.list); !ok || !sameSpace(s, c.want) {
			t.Errorf("SpaceOf(%.200v) is %v, %v instead of %v", c.list, s, ok, c.want)
		}
	}
}

func TestP49OnePointerLessWithoutTheFirstOne(t *testing.T) {
	for i, list := range countedLists() {
		if len(list) > 300 {
			list = append(slices.Clone(list[:100]), list[len(list)-100:]...)
		}
		for len(list) > 0 {
			s, _ := impl.SpaceOf(list)
			less, ok := impl.SpaceOf(list[1:])
			if p := list[0]; p != (impl.Ptr{}) {
				s.Refs[p.At]--
			}
			if !ok || !slices.Equal(less.Refs, s.Refs) {
				t.Fatalf("list %d: %d pointers without the first one have other references, or %v", i, len(list), ok)
			}
			list = list[1:]
		}
	}
}

func TestP49TheOrderOfPointersDoesNotCount(t *testing.T) {
	for i, list := range countedLists() {
		want, _ := countedByHand(list)
		mixed := slices.Clone(list)
		for seed := range int64(5) {
			rand.New(rand.NewSource(seed)).Shuffle(len(mixed), func(i, k int) { mixed[i], mixed[k] = mixed[k], mixed[i] })
			if s, ok := impl.SpaceOf(mixed); !ok || !sameSpace(s, want) {
				t.Errorf("SpaceOf of list %d in another order is %v, %v", i, s, ok)
			}
		}
	}
}

func TestP49SpaceOfIsWhatIsTakenOneByOne(t *testing.T) {
	for i, list := range countedLists() {
		sorted := slices.Clone(list)
		slices.SortFunc(sorted, func(p, q impl.Ptr) int { return cmp.Compare(p.Birth, q.Birth) })
		taken := impl.SpaceNew()
		for _, p := range sorted {
			if p == (impl.Ptr{}) {
				continue
			}
			next, ok := impl.SpaceTake(taken, p.At, p.Birth)
			if !ok {
				t.Fatalf("list %d: SpaceTake of row %d in %d fails", i, p.At, p.Birth)
			}
			taken = next
		}
		if s, _ := impl.SpaceOf(list); !sameSpace(s, taken) {
			t.Errorf("SpaceOf of list %d is not what is taken one by one", i)
		}
	}
}

// noSpaceOf reports whether SpaceOf of a list fails with nothing.
func noSpaceOf(list []impl.Ptr) bool {
	s, ok := impl.SpaceOf(list)
	return !ok && noSpace(s)
}

func TestP49NoSpaceOfPointersThatAreNotValid(t *testing.T) {
	base := []impl.Ptr{leastPointer, {}, topPointer, refTo(30, 7)}
	for _, wrong := range wrongPointers() {
		for i := range len(base) + 1 {
			if list := slices.Insert(slices.Clone(base), i, wrong); !noSpaceOf(list) {
				t.Errorf("SpaceOf(%v) is something", list)
			}
		}
		for _, list := range [][]impl.Ptr{{wrong}, {wrong, wrong}, {{}, wrong}, {wrong, {}}, {leastPointer, leastPointer, wrong}} {
			if !noSpaceOf(list) {
				t.Errorf("SpaceOf(%v) is something", list)
			}
		}
	}
}

func TestP49NoSpaceOfTwoWithTheSameRowAndBirth(t *testing.T) {
	for _, p := range []impl.Ptr{leastPointer, topPointer, refTo(8, 900), refTo(63, 1), refTo(30, 450)} {
		others := []impl.Ptr{p, p, p, p}
		others[1].Size = p.Size%128 + 1
		others[2].Sum = (p.Sum + 1) % sumGreatest
		others[3].Level = (p.Level + 1) % 3
		for _, other := range others {
			between := append(refsTo(31, allBirths()...), impl.Ptr{})
			lists := [][]impl.Ptr{
				{p, other}, {p, {}, other}, {{}, p, refTo(40, p.Birth), other}, {refTo(40, p.Birth), p, other, {}},
				append(append([]impl.Ptr{p}, between...), other), append(between, p, other), append([]impl.Ptr{p, other}, between...),
			}
			for _, list := range lists {
				if !noSpaceOf(list) {
					t.Errorf("SpaceOf(%.200v) is something", list)
				}
			}
		}
		// One row with another birth, or another row with the same one, is no other reference of this kind.
		near := []impl.Ptr{p, refTo(p.At, p.Birth%900+1), refTo((p.At-7)%56+8, p.Birth), {}, {}}
		want, _ := countedByHand(near)
		if s, ok := impl.SpaceOf(near); !ok || !sameSpace(s, want) {
			t.Errorf("SpaceOf(%v) is %v, %v", near, s, ok)
		}
	}
}

func TestP51SpaceOfTwoListsHasTheReferencesOfBoth(t *testing.T) {
	lists := countedLists()
	for i, one := range lists {
		for k, two := range lists {
			both := append(slices.Clone(one), two...)
			want, fine := countedByHand(both)
			s, ok := impl.SpaceOf(both)
			if ok != fine || !sameSpace(s, want) {
				t.Fatalf("SpaceOf of the lists %d and %d is %v, %v instead of %v, %v", i, k, s, ok, want, fine)
			}
			if !ok {
				continue
			}
			a, aOk := impl.SpaceOf(one)
			b, bOk := impl.SpaceOf(two)
			if !aOk || !bOk {
				t.Fatalf("SpaceOf of list %d is %v and of list %d %v, but true of both", i, aOk, k, bOk)
			}
			for at := range 64 {
				if s.Refs[at] != a.Refs[at]+b.Refs[at] || s.Last[at] != max(a.Last[at], b.Last[at]) {
					t.Fatalf("row %d of the lists %d and %d has %d references till %d", at, i, k, s.Refs[at], s.Last[at])
				}
			}
		}
	}
}

func TestP51ListsOfTheSameReferences(t *testing.T) {
	for i, list := range countedLists() {
		holes := !slices.ContainsFunc(list, func(p impl.Ptr) bool { return p != impl.Ptr{} })
		s, ok := impl.SpaceOf(append(slices.Clone(list), list...))
		if ok != holes || ok && !sameSpace(s, emptySpace()) || !ok && !noSpace(s) {
			t.Errorf("SpaceOf of list %d twice is %v, %v", i, s, ok)
		}
	}
}
