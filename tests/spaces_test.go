package tests

import (
	"fmt"
	"math"
	"math/rand"
	"slices"
	"testing"

	"loop.example/poolfiles/impl"
)

// namedSpace is space with a name.
type namedSpace struct {
	name  string
	space impl.Space
}

// usedRow is a row with references, the last of which was made in a transaction group.
type usedRow struct{ at, refs, last int }

// emptySpace is space in which all rows are free.
func emptySpace() impl.Space {
	return impl.Space{Refs: make([]int, 64), Last: make([]int, 64)}
}

// spaceWith is space in which just some rows are used.
func spaceWith(rows ...usedRow) impl.Space {
	s := emptySpace()
	for _, row := range rows {
		s.Refs[row.at], s.Last[row.at] = row.refs, row.last
	}
	return s
}

// fullSpace is space in which all rows for blocks are used but some.
func fullSpace(but ...int) impl.Space {
	s := emptySpace()
	for at := 8; at <= 63; at++ {
		if !slices.Contains(but, at) {
			s.Refs[at], s.Last[at] = 1+at%3, at*14
		}
	}
	return s
}

// scatteredSpace is space of which a seed tells what is used.
func scatteredSpace(seed int64) impl.Space {
	random := rand.New(rand.NewSource(seed))
	s := emptySpace()
	for at := 8; at <= 63; at++ {
		if random.Intn(4) == 0 {
			continue
		}
		s.Last[at] = 1 + random.Intn(900)
		s.Refs[at] = 1 + random.Intn(s.Last[at])
		if random.Intn(2) == 0 {
			s.Refs[at] = 1
		}
	}
	return s
}

func copySpace(s impl.Space) impl.Space {
	return impl.Space{Refs: slices.Clone(s.Refs), Last: slices.Clone(s.Last)}
}

func sameSpace(a, b impl.Space) bool {
	return slices.Equal(a.Refs, b.Refs) && slices.Equal(a.Last, b.Last)
}

// noSpace reports whether space is the zero value.
func noSpace(s impl.Space) bool {
	return len(s.Refs) == 0 && len(s.Last) == 0
}

// changedSpace returns space behind a change.
func changedSpace(s impl.Space, change func(s *impl.Space)) impl.Space {
	s = copySpace(s)
	change(&s)
	return s
}

// blockRows returns all rows for blocks, ascending.
func blockRows() []int {
	list := []int{}
	for at := 8; at <= 63; at++ {
		list = append(list, at)
	}
	return list
}

// freeRows returns the free rows for blocks, ascending.
func freeRows(s impl.Space) []int {
	return slices.DeleteFunc(blockRows(), func(at int) bool { return s.Refs[at] != 0 })
}

// validSpaces returns valid space of many kinds.
func validSpaces() []namedSpace {
	list := []namedSpace{
		{"all free", emptySpace()},
		{"all used", fullSpace()},
		{"the first and the last row used", spaceWith(usedRow{8, 1, 1}, usedRow{63, 2, 900})},
		{"the first and the last row free", fullSpace(8, 63)},
		{"the second and the last but one free", fullSpace(9, 62)},
		{"each second row used", fullSpace(8, 10, 12, 14, 16, 18, 20, 22, 24, 26, 28, 30, 32, 34, 36, 38, 40, 42, 44, 46, 48, 50, 52, 54, 56, 58, 60, 62)},
		{"as many references as there may be", spaceWith(usedRow{8, 900, 900}, usedRow{20, 899, 899}, usedRow{21, 899, 900}, usedRow{63, 900, 900})},
	}
	for _, at := range []int{8, 9, 30, 62, 63} {
		list = append(list,
			namedSpace{fmt.Sprint("row ", at, " alone used"), spaceWith(usedRow{at, 1, 1})},
			namedSpace{fmt.Sprint("row ", at, " alone used, late"), spaceWith(usedRow{at, 1, 900})},
			namedSpace{fmt.Sprint("row ", at, " alone used, often"), spaceWith(usedRow{at, 3, 17})},
			namedSpace{fmt.Sprint("row ", at, " alone free"), fullSpace(at)},
		)
	}
	for seed := range int64(20) {
		list = append(list, namedSpace{fmt.Sprint("scattered ", seed), scatteredSpace(seed)})
	}
	return list
}

// wrongUses returns what a row for blocks may not have: references, and the group of the last of them.
func wrongUses() [][2]int {
	return [][2]int{
		{0, 1}, {0, 900}, {0, 901}, {0, -1}, {1, 0}, {2, 1}, {2, 0}, {900, 899}, {900, 0}, {900, 901}, {901, 900}, {901, 901}, {1, 901},
		{-1, 0}, {-1, -1}, {-1, 1}, {-900, 900}, {1, -1}, {1, math.MaxInt}, {math.MaxInt, math.MaxInt}, {math.MinInt, 0}, {math.MinInt, 1},
		{1, math.MinInt}, {0, math.MinInt}, {0, math.MaxInt}, {math.MaxInt, 1}, {math.MaxUint32 + 2, 1}, {1, math.MaxUint32 + 2},
	}
}

// wrongSizeSpaces returns space with too few or too many numbers of one kind, or of both.
func wrongSizeSpaces() []namedSpace {
	list := []namedSpace{}
	for _, many := range [][2]int{{0, 0}, {0, 64}, {64, 0}, {63, 64}, {64, 63}, {63, 63}, {65, 64}, {64, 65}, {65, 65}, {56, 56}, {128, 128}, {63, 65}, {65, 63}, {1, 1}} {
		zeros := impl.Space{Refs: make([]int, many[0]), Last: make([]int, many[1])}
		list = append(list, namedSpace{fmt.Sprint(many, " numbers"), zeros})
		ones := copySpace(zeros)
		for at := 8; at < min(many[0], many[1]); at++ {
			ones.Refs[at], ones.Last[at] = 1, 1
		}
		list = append(list, namedSpace{fmt.Sprint(many, " numbers, used"), ones})
	}
	return list
}

// wrongSpaces returns space that is not valid.
func wrongSpaces() []namedSpace {
	list := wrongSizeSpaces()
	for _, base := range []namedSpace{{"else free", emptySpace()}, {"else used", fullSpace()}} {
		wrong := func(at int, pair [2]int) {
			s := changedSpace(base.space, func(s *impl.Space) { s.Refs[at], s.Last[at] = pair[0], pair[1] })
			list = append(list, namedSpace{fmt.Sprintf("%v in row %d, %s", pair, at, base.name), s})
		}
		for _, at := range []int{8, 9, 30, 62, 63} {
			for _, pair := range wrongUses() {
				wrong(at, pair)
			}
		}
		for at := range 8 {
			for _, pair := range append(wrongUses(), [2]int{1, 1}, [2]int{1, 900}, [2]int{900, 900}, [2]int{3, 17}) {
				wrong(at, pair)
			}
		}
	}
	return list
}

// wrongRowsForBlocks returns numbers of rows that are none for blocks.
func wrongRowsForBlocks() []int {
	return []int{7, 64, 0, 1, 6, -1, 65, 72, 120, -8, -56, math.MinInt, math.MaxInt, math.MinInt + 8, math.MaxUint32 + 9}
}

func TestP43AllRowsOfNewSpaceAreFree(t *testing.T) {
	s := impl.SpaceNew()
	if !impl.SpaceOk(s) || !sameSpace(s, emptySpace()) {
		t.Fatalf("SpaceNew() = %v", s)
	}
	if room := impl.SpaceRoom(s); room != 56 {
		t.Errorf("SpaceRoom of new space is %d", room)
	}
	for _, at := range blockRows() {
		if found := impl.SpaceFind(s, at, nil); found != at {
			t.Errorf("SpaceFind in new space from row %d on is %d", at, found)
		}
		if _, ok := impl.SpaceTake(s, at, 1); !ok {
			t.Errorf("SpaceTake of row %d of new space fails", at)
		}
		if _, ok := impl.SpaceGive(s, at); ok {
			t.Errorf("SpaceGive of row %d of new space is true", at)
		}
	}
}

func TestP44ValidSpace(t *testing.T) {
	for _, c := range validSpaces() {
		if !impl.SpaceOk(c.space) {
			t.Errorf("%s: SpaceOk is false", c.name)
		}
		if room := impl.SpaceRoom(c.space); room != len(freeRows(c.space)) {
			t.Errorf("%s: SpaceRoom is %d instead of %d", c.name, room, len(freeRows(c.space)))
		}
	}
}

func TestP44SpaceThatIsNotValid(t *testing.T) {
	for _, c := range wrongSpaces() {
		if impl.SpaceOk(c.space) {
			t.Errorf("%s: SpaceOk is true", c.name)
		}
		if room := impl.SpaceRoom(c.space); room != -1 {
			t.Errorf("%s: SpaceRoom is %d", c.name, room)
		}
	}
}

func TestP44WhatEachRowMayHave(t *testing.T) {
	numbers := []int{math.MinInt, -900, -1, 0, 1, 2, 3, 450, 898, 899, 900, 901, 902, math.MaxInt}
	for at := range 64 {
		for _, refs := range numbers {
			for _, last := range numbers {
				s := spaceWith(usedRow{at, refs, last})
				free := refs == 0 && last == 0
				used := at >= 8 && refs >= 1 && last >= refs && last <= 900
				if impl.SpaceOk(s) != (free || used) {
					t.Errorf("SpaceOk with %d and %d in row %d is %v", refs, last, at, !(free || used))
				}
				want := -1
				switch {
				case free:
					want = 56
				case used:
					want = 55
				}
				if room := impl.SpaceRoom(s); room != want {
					t.Errorf("SpaceRoom with %d and %d in row %d is %d instead of %d", refs, last, at, room, want)
				}
			}
		}
	}
}

// startRows returns from where to look: rows for blocks, and numbers of none.
func startRows() []int {
	return append(blockRows(), wrongRowsForBlocks()...)
}

// walkedFrom returns all rows for blocks in the order in which they are looked at.
func walkedFrom(from int) []int {
	list := blockRows()
	if i := slices.Index(list, from); i >= 0 {
		return append(slices.Clone(list[i:]), list[:i]...)
	}
	return list
}

func TestP45NoRoomJustIfNothingIsFound(t *testing.T) {
	for _, c := range validSpaces() {
		room := impl.SpaceRoom(c.space)
		for _, from := range startRows() {
			for _, but := range [][]int{nil, {}} {
				if found := impl.SpaceFind(c.space, from, but); (found == -1) != (room == 0) {
					t.Errorf("%s: SpaceFind from %d on is %d with room %d", c.name, from, found, room)
				}
			}
		}
	}
}

func TestP45SpaceThatIsUsedRowByRow(t *testing.T) {
	for _, from := range startRows() {
		s := emptySpace()
		for i, at := range walkedFrom(from) {
			if found, room := impl.SpaceFind(s, from, nil), impl.SpaceRoom(s); found != at || room != 56-i {
				t.Fatalf("from %d on %d is found with room %d instead of %d and %d", from, found, room, at, 56-i)
			}
			next, ok := impl.SpaceTake(s, at, 900)
			if !ok {
				t.Fatalf("SpaceTake of row %d fails", at)
			}
			s = next
		}
		if found, room := impl.SpaceFind(s, from, nil), impl.SpaceRoom(s); found != -1 || room != 0 {
			t.Errorf("from %d on %d is found with room %d in space that is used", from, found, room)
		}
	}
}

// leftOut returns lists for a search in a space: that leave out all its free rows, all but one, none, and rows that are not there.
func leftOut(s impl.Space) [][]int {
	free := freeRows(s)
	down := slices.Clone(free)
	slices.Reverse(down)
	list := [][]int{
		nil, {8}, {63}, {8, 63}, {63, 8, 8}, {9, 10, 11}, {62, 63, 8, 9}, {30}, free, down, blockRows(), wrongRowsForBlocks(),
		append(wrongRowsForBlocks(), free...), append(slices.Clone(free), free...),
		slices.DeleteFunc(blockRows(), func(at int) bool { return slices.Contains(free, at) }),
	}
	for i := range free {
		list = append(list, free[:i], free[i:], slices.Delete(slices.Clone(free), i, i+1), slices.Delete(slices.Clone(down), i, i+1))
	}
	return list
}

func TestP46WhatIsFound(t *testing.T) {
	for _, c := range validSpaces() {
		for _, but := range leftOut(c.space) {
			for _, from := range startRows() {
				want := -1
				for _, at := range walkedFrom(from) {
					if c.space.Refs[at] == 0 && !slices.Contains(but, at) {
						want = at
						break
					}
				}
				if found := impl.SpaceFind(c.space, from, but); found != want {
					t.Fatalf("%s: SpaceFind from %d on but %v is %d instead of %d", c.name, from, but, found, want)
				}
			}
		}
	}
}

func TestP46RowsThatAreFound(t *testing.T) {
	cases := []struct {
		name  string
		space impl.Space
		from  int
		but   []int
		want  int
	}{
		{"the first one", emptySpace(), 8, nil, 8},
		{"the last one", emptySpace(), 63, nil, 63},
		{"behind the last one", emptySpace(), 64, nil, 8},
		{"below the first one", emptySpace(), 7, nil, 8},
		{"a negative number", emptySpace(), -1, nil, 8},
		{"a number behind those of blocks, and again", emptySpace(), 64 + 56 + 3, nil, 8},
		{"on from the last one", spaceWith(usedRow{63, 1, 1}), 63, nil, 8},
		{"on from the last one, left out", emptySpace(), 63, []int{63}, 8},
		{"on from the last one, to the second one", spaceWith(usedRow{63, 1, 1}), 63, []int{8}, 9},
		{"all around, to the row before", fullSpace(62), 63, nil, 62},
		{"all around, to the first row", fullSpace(8), 9, nil, 8},
		{"all ahead, to the last row", fullSpace(63), 8, nil, 63},
		{"the last row, left out", fullSpace(63), 8, []int{63}, -1},
		{"the first row, left out", fullSpace(8), 63, []int{8}, -1},
		{"the last row, others left out", fullSpace(63), 64, []int{62, 64, -1, 7, 8}, 63},
		{"no free row", fullSpace(), 63, nil, -1},
		{"all free, all left out", emptySpace(), 30, blockRows(), -1},
		{"all free, those left out that are not there", emptySpace(), 30, wrongRowsForBlocks(), 30},
	}
	for _, c := range cases {
		if found := impl.SpaceFind(c.space, c.from, c.but); found != c.want {
			t.Errorf("%s: SpaceFind from %d on but %v is %d instead of %d", c.name, c.from, c.but, found, c.want)
		}
	}
}

func TestP46NothingIsFoundInSpaceThatIsNotValid(t *testing.T) {
	for _, c := range wrongSpaces() {
		for _, from := range []int{8, 30, 63, 7, 64, -1, 0, math.MinInt, math.MaxInt} {
			for _, but := range [][]int{nil, {8}, blockRows()} {
				if found := impl.SpaceFind(c.space, from, but); found != -1 {
					t.Errorf("%s: SpaceFind from %d on is %d", c.name, from, found)
				}
			}
		}
	}
}
