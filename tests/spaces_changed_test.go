package tests

import (
	"math"
	"math/rand"
	"slices"
	"testing"

	"loop.example/poolfiles/impl"
)

// groupsBehind returns groups in which a row of a space may get one more reference.
func groupsBehind(last int) []int {
	list := []int{}
	for _, txg := range []int{last + 1, last + 2, (last + 901) / 2, 899, 900} {
		if txg > last && txg <= 900 {
			list = append(list, txg)
		}
	}
	return list
}

// wrongGroups returns groups in which a row of a space may not get one more reference.
func wrongGroups(last int) []int {
	return []int{last, last - 1, last / 2, 0, -1, 901, 902, -900, math.MinInt, math.MaxInt, math.MaxUint32 + 901}
}

func TestP47SpaceTakeCountsOneMore(t *testing.T) {
	for _, c := range validSpaces() {
		for _, at := range blockRows() {
			for _, txg := range groupsBehind(c.space.Last[at]) {
				next, ok := impl.SpaceTake(c.space, at, txg)
				want := changedSpace(c.space, func(s *impl.Space) { s.Refs[at]++; s.Last[at] = txg })
				if !ok || !sameSpace(next, want) || !impl.SpaceOk(next) {
					t.Fatalf("%s: SpaceTake of row %d in %d: %v, or another change", c.name, at, txg, ok)
				}
			}
		}
	}
}

func TestP47SpaceGiveTakesAway(t *testing.T) {
	for _, c := range validSpaces() {
		for _, at := range blockRows() {
			for _, txg := range groupsBehind(c.space.Last[at]) {
				next, _ := impl.SpaceTake(c.space, at, txg)
				back, ok := impl.SpaceGive(next, at)
				want := changedSpace(c.space, func(s *impl.Space) {
					// The group of the one that is taken away again stays, but in a row that is free then.
					if s.Refs[at] > 0 {
						s.Last[at] = txg
					}
				})
				if !ok || !sameSpace(back, want) || !impl.SpaceOk(back) {
					t.Fatalf("%s: SpaceGive behind SpaceTake of row %d in %d: %v, or another change", c.name, at, txg, ok)
				}
			}
		}
	}
}

func TestP47SpaceTakeInTheFirstAndTheLastGroup(t *testing.T) {
	for _, at := range blockRows() {
		if s, ok := impl.SpaceTake(emptySpace(), at, 1); !ok || !sameSpace(s, spaceWith(usedRow{at, 1, 1})) {
			t.Errorf("SpaceTake of row %d in the first group is %v, %v", at, s, ok)
		}
		if s, ok := impl.SpaceTake(emptySpace(), at, 900); !ok || !sameSpace(s, spaceWith(usedRow{at, 1, 900})) {
			t.Errorf("SpaceTake of row %d in the last group is %v, %v", at, s, ok)
		}
		s := emptySpace()
		for txg := 1; txg <= 900; txg++ {
			next, ok := impl.SpaceTake(s, at, txg)
			if !ok || next.Refs[at] != txg || next.Last[at] != txg {
				t.Fatalf("SpaceTake of row %d in group %d: %v, or another number", at, txg, ok)
			}
			s = next
		}
		if next, ok := impl.SpaceTake(s, at, 900); ok || !noSpace(next) {
			t.Errorf("SpaceTake of row %d with the greatest number of references is %v, %v", at, next, ok)
		}
	}
}

func TestP47SpaceTakeFailsWithNothing(t *testing.T) {
	fails := func(c namedSpace, at, txg int) {
		t.Helper()
		if next, ok := impl.SpaceTake(c.space, at, txg); ok || !noSpace(next) {
			t.Errorf("%s: SpaceTake of row %d in %d is %v, %v", c.name, at, txg, next, ok)
		}
	}
	for _, c := range validSpaces() {
		for _, at := range blockRows() {
			for _, txg := range wrongGroups(c.space.Last[at]) {
				fails(c, at, txg)
			}
		}
		for _, at := range wrongRowsForBlocks() {
			for _, txg := range []int{1, 900, 0, 901} {
				fails(c, at, txg)
			}
		}
	}
	for _, c := range wrongSpaces() {
		for _, at := range []int{8, 30, 63, 7, 64, -1} {
			for _, txg := range []int{1, 900, 0, 901} {
				fails(c, at, txg)
			}
		}
	}
}

func TestP48SpaceGiveCountsOneLess(t *testing.T) {
	for _, c := range validSpaces() {
		room := impl.SpaceRoom(c.space)
		for at := range 64 {
			next, ok := impl.SpaceGive(c.space, at)
			if c.space.Refs[at] == 0 {
				if ok || !noSpace(next) {
					t.Errorf("%s: SpaceGive of the free row %d is %v, %v", c.name, at, next, ok)
				}
				continue
			}
			last := c.space.Refs[at] == 1
			want := changedSpace(c.space, func(s *impl.Space) {
				s.Refs[at]--
				if last {
					s.Last[at] = 0
				}
			})
			if !ok || !sameSpace(next, want) || !impl.SpaceOk(next) {
				t.Fatalf("%s: SpaceGive of row %d: %v, or another change", c.name, at, ok)
			}
			if more := impl.SpaceRoom(next) - room; more != 0 && !last || more != 1 && last {
				t.Errorf("%s: behind SpaceGive of row %d there is %d more room", c.name, at, more)
			}
		}
	}
}

func TestP48SpaceGiveOfAllReferences(t *testing.T) {
	for _, at := range []int{8, 9, 30, 62, 63} {
		s := spaceWith(usedRow{at, 900, 900})
		for refs := 899; refs > 0; refs-- {
			next, ok := impl.SpaceGive(s, at)
			if !ok || !sameSpace(next, spaceWith(usedRow{at, refs, 900})) {
				t.Fatalf("SpaceGive of row %d does not leave %d references: %v", at, refs, ok)
			}
			s = next
		}
		s, ok := impl.SpaceGive(s, at)
		if !ok || !sameSpace(s, emptySpace()) {
			t.Fatalf("SpaceGive of the last reference to row %d leaves %v, %v", at, s, ok)
		}
		// A row that is free again is used from any group on.
		if s, ok := impl.SpaceTake(s, at, 1); !ok || !sameSpace(s, spaceWith(usedRow{at, 1, 1})) {
			t.Errorf("SpaceTake of row %d that is free again is %v, %v", at, s, ok)
		}
	}
}

func TestP48SpaceGiveFailsWithNothing(t *testing.T) {
	for _, c := range validSpaces() {
		for _, at := range wrongRowsForBlocks() {
			if next, ok := impl.SpaceGive(c.space, at); ok || !noSpace(next) {
				t.Errorf("%s: SpaceGive of row %d is %v, %v", c.name, at, next, ok)
			}
		}
	}
	for _, c := range wrongSpaces() {
		for _, at := range append(blockRows(), wrongRowsForBlocks()...) {
			if next, ok := impl.SpaceGive(c.space, at); ok || !noSpace(next) {
				t.Errorf("%s: SpaceGive of row %d is %v, %v", c.name, at, next, ok)
			}
		}
	}
}

// takenSpace returns space behind two references, each of which must be counted.
func takenSpace(t *testing.T, s impl.Space, one, two usedRow) impl.Space {
	t.Helper()
	for _, row := range []usedRow{one, two} {
		next, ok := impl.SpaceTake(s, row.at, row.last)
		if !ok {
			t.Fatalf("SpaceTake of row %d in %d failed", row.at, row.last)
		}
		s = next
	}
	return s
}

func TestP50TwoReferencesInEitherOrder(t *testing.T) {
	for _, c := range validSpaces() {
		for _, pair := range [][2]int{{8, 63}, {8, 9}, {62, 63}, {30, 31}, {9, 8}, {20, 63}} {
			for _, ahead := range groupsBehind(c.space.Last[pair[0]]) {
				for _, behind := range groupsBehind(c.space.Last[pair[1]]) {
					one, two := usedRow{at: pair[0], last: ahead}, usedRow{at: pair[1], last: behind}
					here, there := takenSpace(t, c.space, one, two), takenSpace(t, c.space, two, one)
					want := changedSpace(c.space, func(s *impl.Space) {
						s.Refs[one.at]++
						s.Refs[two.at]++
						s.Last[one.at], s.Last[two.at] = one.last, two.last
					})
					if !sameSpace(here, there) || !sameSpace(here, want) {
						t.Fatalf("%s: references to %d in %d and to %d in %d are not the same in either order", c.name, one.at, one.last, two.at, two.last)
					}
				}
			}
		}
	}
}

// modelSpace is space told in another way: by the groups in which the references to each row were made, ascending.
type modelSpace map[int][]int

func (m modelSpace) space() impl.Space {
	s := emptySpace()
	for at, groups := range m {
		if len(groups) > 0 {
			s.Refs[at], s.Last[at] = len(groups), groups[len(groups)-1]
		}
	}
	return s
}

// spaceStep counts one reference more or less, as random numbers tell, in space and in its model.
func spaceStep(s impl.Space, m modelSpace, random *rand.Rand) (impl.Space, bool) {
	at, txg := 4+random.Intn(64), random.Intn(905)-2
	there := at >= 8 && at <= 63
	if random.Intn(3) == 0 {
		next, ok := impl.SpaceGive(s, at)
		if there && len(m[at]) > 0 {
			// The oldest one, so that the group of the last one stays.
			m[at] = m[at][1:]
			return next, ok
		}
		return s, !ok && noSpace(next)
	}
	if there && len(m[at]) > 0 && random.Intn(4) > 0 {
		txg = m[at][len(m[at])-1] + random.Intn(3)
	}
	next, ok := impl.SpaceTake(s, at, txg)
	if there && txg >= 1 && txg <= 900 && (len(m[at]) == 0 || txg > m[at][len(m[at])-1]) {
		m[at] = append(m[at], txg)
		return next, ok
	}
	return s, !ok && noSpace(next)
}

func TestP47P48ManyStepsAreThoseOfAModel(t *testing.T) {
	for seed := range int64(20) {
		random := rand.New(rand.NewSource(seed))
		s, m := impl.SpaceNew(), modelSpace{}
		for step := range 600 {
			next, ok := spaceStep(s, m, random)
			if !ok || !sameSpace(next, m.space()) {
				t.Fatalf("seed %d, step %d: another result", seed, step)
			}
			s = next
			if room := impl.SpaceRoom(s); !impl.SpaceOk(s) || room != len(freeRows(s)) {
				t.Fatalf("seed %d, step %d: room %d, or not valid", seed, step, room)
			}
		}
	}
}

// spaceResults returns all space that comes of one by the functions.
func spaceResults(s impl.Space) []impl.Space {
	list := []impl.Space{impl.SpaceNew()}
	for _, at := range []int{8, 30, 63} {
		taken, _ := impl.SpaceTake(s, at, 900)
		given, _ := impl.SpaceGive(s, at)
		list = append(list, taken, given)
	}
	counted, _ := impl.SpaceOf([]impl.Ptr{leastPointer, {}, topPointer})
	none, _ := impl.SpaceOf(nil)
	return append(list, counted, none, impl.SpaceNew())
}

// roomBehind returns numbers in memory that goes on behind them.
func roomBehind(numbers []int) []int {
	return append(make([]int, 0, 200), numbers...)
}

// scrawlNumbers writes over numbers, and what is behind them in their memory.
func scrawlNumbers(numbers []int) {
	numbers = numbers[:cap(numbers)]
	for i := range numbers {
		numbers[i] = -77
	}
}

// zerosBehind reports whether nothing was written behind numbers, in their memory.
func zerosBehind(numbers []int) bool {
	return !slices.ContainsFunc(numbers[len(numbers):cap(numbers)], func(n int) bool { return n != 0 })
}

func TestSpacesShareNoMemory(t *testing.T) {
	for _, c := range append(validSpaces(), wrongSpaces()...) {
		s := impl.Space{Refs: roomBehind(c.space.Refs), Last: roomBehind(c.space.Last)}
		results := spaceResults(s)
		if !sameSpace(s, c.space) || !zerosBehind(s.Refs) || !zerosBehind(s.Last) {
			t.Fatalf("%s: an argument was changed", c.name)
		}
		again := []impl.Space{}
		for _, result := range results {
			again = append(again, copySpace(result))
		}
		for i := range results {
			scrawlNumbers(results[i].Refs)
			if !sameSpace(s, c.space) || !slices.Equal(results[i].Last, again[i].Last) {
				t.Fatalf("%s: Refs of result %d share memory", c.name, i)
			}
			scrawlNumbers(results[i].Last)
			if !sameSpace(s, c.space) {
				t.Fatalf("%s: Last of result %d shares memory with the argument", c.name, i)
			}
			for k := i + 1; k < len(results); k++ {
				if !sameSpace(results[k], again[k]) {
					t.Fatalf("%s: results %d and %d share memory", c.name, i, k)
				}
			}
		}
	}
}

func TestListsForSpaceAreNotChanged(t *testing.T) {
	but, rows := roomBehind([]int{63, 8, 9, 63, -1}), []int{63, 8, 9, 63, -1}
	list, pointers := make([]impl.Ptr, 0, 50), []impl.Ptr{topPointer, {}, leastPointer, {}}
	list = append(list, pointers...)
	impl.SpaceFind(emptySpace(), 63, but)
	impl.SpaceOf(list)
	if !slices.Equal(but, rows) || !zerosBehind(but) {
		t.Errorf("SpaceFind has changed its list to %v", but)
	}
	behind := list[len(list):cap(list)]
	if !slices.Equal(list, pointers) || slices.ContainsFunc(behind, func(p impl.Ptr) bool { return p != impl.Ptr{} }) {
		t.Errorf("SpaceOf has changed its list to %v", list)
	}
}
