package tests

import (
	"fmt"
	"math"
	"math/rand"
	"slices"
	"strings"
	"testing"

	"loop.example/poolfiles/impl"
)

// namedStore is a store with a name.
type namedStore struct {
	name  string
	store impl.Store
}

// heldRow is a row with a text and references, the last of which was made in a transaction group.
type heldRow struct {
	at         int
	text       string
	refs, last int
}

// emptyStore is a store without blocks in a transaction group.
func emptyStore(txg int) impl.Store {
	return impl.Store{Rows: make([]string, 64), Space: emptySpace(), Txg: txg}
}

// storeWith is a store in a transaction group in which just some rows are used.
func storeWith(txg int, rows ...heldRow) impl.Store {
	st := emptyStore(txg)
	for _, row := range rows {
		st.Rows[row.at], st.Space.Refs[row.at], st.Space.Last[row.at] = row.text, row.refs, row.last
	}
	return st
}

// fullStore is a store in a transaction group in which all rows for blocks are used but some.
func fullStore(txg int, but ...int) impl.Store {
	rows := []heldRow{}
	for _, at := range blockRows() {
		if !slices.Contains(but, at) {
			last := 1 + at*7%txg
			rows = append(rows, heldRow{at, scramble(1+at*5%128, at), 1 + at%min(last, 3), last})
		}
	}
	return storeWith(txg, rows...)
}

// withSame is a store in which contents that a row has are not written again.
func withSame(st impl.Store) impl.Store {
	st.Same = true
	return st
}

// withGiven is a store with references that were given up.
func withGiven(st impl.Store, gone []impl.Ptr, keep int, dead []impl.Ptr) impl.Store {
	st.Gone, st.Keep, st.Dead = gone, keep, dead
	return st
}

func copyStore(st impl.Store) impl.Store {
	st.Rows, st.Space = slices.Clone(st.Rows), copySpace(st.Space)
	st.Gone, st.Dead = slices.Clone(st.Gone), slices.Clone(st.Dead)
	return st
}

func sameStore(a, b impl.Store) bool {
	return slices.Equal(a.Rows, b.Rows) && sameSpace(a.Space, b.Space) && a.Txg == b.Txg &&
		slices.Equal(a.Gone, b.Gone) && a.Keep == b.Keep && slices.Equal(a.Dead, b.Dead) && a.Same == b.Same
}

// noStore reports whether a store is the zero value.
func noStore(st impl.Store) bool {
	return sameStore(st, impl.Store{})
}

// changedStore returns a store behind a change, which leaves the given one as it is.
func changedStore(st impl.Store, change func(st *impl.Store)) impl.Store {
	st = copyStore(st)
	change(&st)
	return st
}

// sumByHand tells the checksum of a short text in another way than the program does: as sums that are cut down at the end.
func sumByHand(text string) int {
	one, two := 1, 0
	for i := range len(text) {
		one += int(text[i]) + 1
		two += one
	}
	return one%9973*9973 + two%9973
}

// toBlock is the pointer to a block in a row.
func toBlock(at, birth, level int, text string) impl.Ptr {
	return impl.Ptr{At: at, Birth: birth, Size: len(text), Sum: sumByHand(text), Level: level}
}

// longBlock is a block of as many bytes as there may be.
func longBlock() string {
	return strings.Repeat("long", 32)
}

// givenStores returns valid stores in which references were given up.
func givenStores() []namedStore {
	row := func(refs int) impl.Store {
		return storeWith(9, heldRow{8, "other", 2, 9}, heldRow{63, "text", refs, 7})
	}
	to := func(births ...int) []impl.Ptr {
		list := []impl.Ptr{}
		for _, birth := range births {
			list = append(list, toBlock(63, birth, 0, "text"))
		}
		return list
	}
	often := storeWith(900, heldRow{8, "a", 900, 900}, heldRow{63, "b", 899, 899})
	many := []impl.Ptr{}
	for birth := 1; birth <= 899; birth++ {
		many = append(many, toBlock(63, birth, birth%3, "b"))
	}
	return []namedStore{
		{"all references in Gone", withGiven(row(3), to(2, 5, 7), 0, nil)},
		{"the only reference in Gone", withGiven(row(1), to(7), 0, nil)},
		{"some references in Gone", withGiven(row(3), to(5), 0, nil)},
		{"some references in Gone with Same", withSame(withGiven(row(3), to(5), 0, nil))},
		{"all references in Gone with Same", withSame(withGiven(row(2), to(5, 1), 0, nil))},
		{"born just ahead of the open group", withGiven(row(2), to(8), 0, nil)},
		{"all references in Dead", withGiven(row(2), nil, 5, to(5, 1))},
		{"some references in Dead", withGiven(row(3), nil, 8, to(8))},
		{"all references in Gone and Dead", withGiven(row(3), to(7, 6), 4, to(4))},
		{"some references in Gone and Dead", withGiven(row(5), to(7, 5), 4, to(4, 2))},
		{"one reference in Gone and in Dead", withGiven(row(2), to(3), 4, to(3))},
		{"one reference in Gone twice", withGiven(row(2), to(3, 3), 0, nil)},
		{"in Gone, born up to Keep", withGiven(row(2), to(1), 8, nil)},
		{"texts that do not fit", withGiven(row(3), []impl.Ptr{refTo(63, 5), refTo(8, 2)}, 4, []impl.Ptr{refTo(63, 1), refTo(8, 4)})},
		{"two rows in Gone", withGiven(row(1), append(to(7), toBlock(8, 8, 1, "other"), toBlock(8, 3, 0, "other")), 0, nil)},
		{"as many references as there may be in Gone", withGiven(often, many, 0, nil)},
		{"as many references as there may be in Dead", withGiven(often, nil, 899, many)},
		{"as many references as there may be in both", withGiven(often, many[400:], 400, many[:400])},
	}
}

// scatteredTexts are some blocks, few enough to be found in several rows.
func scatteredTexts() []string {
	return []string{"a", "b", "ab", "text", "\x00", "\x00\x00", longBlock(), scramble(127, 1)}
}

// scatteredStore is a valid store of which a seed tells what is in it.
func scatteredStore(seed int64) impl.Store {
	random := rand.New(rand.NewSource(seed))
	txg := 2 + random.Intn(5)
	if seed%4 == 0 {
		txg = 2 + random.Intn(899)
	}
	st := emptyStore(txg)
	st.Keep, st.Same = random.Intn(txg), seed%2 == 0
	texts := scatteredTexts()
	for _, at := range blockRows() {
		if random.Intn(9) == 0 && seed%3 != 0 {
			continue
		}
		last := 1 + random.Intn(txg)
		refs := 1 + random.Intn(last)
		st.Rows[at], st.Space.Refs[at], st.Space.Last[at] = texts[random.Intn(len(texts))], refs, last
		for range random.Intn(min(refs, 5) + 1) {
			birth := 1 + random.Intn(txg-1)
			if p := toBlock(at, birth, random.Intn(3), st.Rows[at]); birth <= st.Keep && random.Intn(3) > 0 {
				st.Dead = append(st.Dead, p)
			} else {
				st.Gone = append(st.Gone, p)
			}
		}
	}
	return st
}

// sharedStores returns stores with the same text in several rows, since other groups.
func sharedStores() []namedStore {
	st := storeWith(6, heldRow{8, "x", 1, 5}, heldRow{9, "same", 1, 6}, heldRow{20, "same", 5, 5}, heldRow{30, "same", 1, 1}, heldRow{63, "last", 2, 3})
	now := storeWith(6, heldRow{8, "same", 6, 6}, heldRow{63, "same", 1, 6})
	full := fullStore(900, 63)
	full.Rows[63], full.Space.Refs[63], full.Space.Last[63] = "same", 899, 899
	return []namedStore{
		{"the same text without Same", st}, {"the same text with Same", withSame(st)},
		{"the same text since now", now}, {"the same text since now with Same", withSame(now)},
		{"full", full}, {"full with Same", withSame(full)},
	}
}

// validStores returns valid stores of many kinds.
func validStores() []namedStore {
	list := []namedStore{
		{"new", emptyStore(1)},
		{"new with Same", withSame(emptyStore(1))},
		{"empty in the last group", emptyStore(900)},
		{"empty in the last group but one", withSame(emptyStore(899))},
		{"empty with Keep", withGiven(emptyStore(2), nil, 1, nil)},
		{"empty with the greatest Keep", withGiven(emptyStore(900), nil, 899, nil)},
		{"short and long blocks", storeWith(5, heldRow{8, "a", 1, 5}, heldRow{9, longBlock(), 2, 4}, heldRow{62, "\x00", 1, 1}, heldRow{63, scramble(127, 9), 4, 4})},
		{"all used", fullStore(900)},
		{"all used with Same", withSame(fullStore(4))},
		{"all used in the first group", withSame(fullStore(1))},
		{"the first row free", fullStore(4, 8)},
		{"the last row free", fullStore(4, 63)},
		{"the last row free with Same", withSame(fullStore(899, 63))},
		{"the first and the last row free", withSame(fullStore(77, 8, 63))},
		{"one in the middle free", fullStore(899, 30)},
	}
	for _, at := range []int{8, 9, 30, 62, 63} {
		list = append(list,
			namedStore{fmt.Sprint("row ", at, " alone used"), storeWith(1, heldRow{at, "a", 1, 1})},
			namedStore{fmt.Sprint("row ", at, " alone used, shared"), withSame(storeWith(900, heldRow{at, longBlock(), 3, 17}))},
		)
	}
	for seed := range int64(24) {
		list = append(list, namedStore{fmt.Sprint("scattered ", seed), scatteredStore(seed)})
	}
	return append(append(list, givenStores()...), sharedStores()...)
}

// wrongGroupStores returns stores that have a group out of its range.
func wrongGroupStores() []namedStore {
	list := []namedStore{}
	for _, base := range []namedStore{{"empty", emptyStore(5)}, {"used", storeWith(5, heldRow{8, "a", 1, 1})}} {
		wrong := func(name string, txg, keep int) {
			st := changedStore(base.store, func(st *impl.Store) { st.Txg, st.Keep = txg, keep })
			list = append(list, namedStore{fmt.Sprint(base.name, name, txg, " ", keep), st})
		}
		for _, txg := range []int{0, -1, 901, 902, -5, math.MinInt, math.MaxInt, math.MaxUint32 + 6} {
			for _, keep := range []int{0, 1, -1, txg - 1, txg, math.MinInt, math.MaxInt} {
				wrong(" in the groups ", txg, keep)
			}
		}
		for _, txg := range []int{1, 2, 5, 899, 900} {
			for _, keep := range []int{-1, txg, txg + 1, -txg, 901, math.MinInt, math.MaxInt, math.MaxUint32 + 1} {
				wrong(" with Keep ", txg, keep)
			}
		}
	}
	return list
}

// wrongRowStores returns stores with too few or too many rows, or with texts that their rows may not have.
func wrongRowStores() []namedStore {
	list := []namedStore{{"nothing", impl.Store{}}, {"nothing in a group", impl.Store{Txg: 1}}}
	wrong := func(name string, base impl.Store, change func(st *impl.Store)) {
		list = append(list, namedStore{name, changedStore(base, change)})
	}
	for _, many := range []int{0, 1, 8, 56, 63, 65, 128} {
		wrong(fmt.Sprint(many, " empty rows"), emptyStore(1), func(st *impl.Store) { st.Rows = make([]string, many) })
		wrong(fmt.Sprint(many, " rows"), fullStore(3), func(st *impl.Store) { st.Rows = append(st.Rows, make([]string, 64)...)[:many] })
	}
	for at := range 64 {
		wrong(fmt.Sprint("a text in the free row ", at), emptyStore(3), func(st *impl.Store) { st.Rows[at] = "a" })
		wrong(fmt.Sprint("a long text in the free row ", at), fullStore(3, at), func(st *impl.Store) { st.Rows[at] = strings.Repeat("x", 129) })
	}
	for _, at := range blockRows() {
		wrong(fmt.Sprint("no text in the used row ", at), fullStore(3), func(st *impl.Store) { st.Rows[at] = "" })
		for _, size := range []int{129, 130, 256, 1 << 16} {
			wrong(fmt.Sprint(size, " bytes in row ", at), fullStore(3), func(st *impl.Store) { st.Rows[at] = strings.Repeat("x", size) })
		}
	}
	for _, at := range []int{8, 9, 30, 62, 63} {
		for _, txg := range []int{1, 5, 899} {
			for _, last := range []int{txg + 1, txg + 2, 900} {
				st := storeWith(txg, heldRow{at, "a", 1, max(last, txg+1)})
				list = append(list, namedStore{fmt.Sprint("row ", at, " used in ", last, ", behind ", txg), st})
			}
		}
	}
	return list
}

// wrongSpaceStores returns stores with space that is not valid, and texts as if it were.
func wrongSpaceStores() []namedStore {
	list := []namedStore{}
	for _, c := range wrongSpaces() {
		st := impl.Store{Rows: make([]string, 64), Space: copySpace(c.space), Txg: 900}
		for at := range min(64, len(c.space.Refs)) {
			if c.space.Refs[at] != 0 {
				st.Rows[at] = "a"
			}
		}
		list = append(list, namedStore{"space: " + c.name, st})
	}
	return list
}

// wrongGivenStores returns stores in which references were given up that may not be.
func wrongGivenStores() []namedStore {
	base := storeWith(9, heldRow{8, "a", 2, 9}, heldRow{63, "text", 3, 7})
	list := []namedStore{}
	wrong := func(name string, gone []impl.Ptr, keep int, dead []impl.Ptr) {
		for _, st := range []impl.Store{base, withSame(base)} {
			list = append(list, namedStore{name, withGiven(copyStore(st), gone, keep, dead)})
		}
	}
	both := func(name string, bad ...impl.Ptr) {
		fine := refsTo(63, 2)
		wrong(name+" in Gone", bad, 0, nil)
		wrong(name+" behind others in Gone", append(slices.Clone(fine), bad...), 8, nil)
		wrong(name+" in Dead", nil, 8, bad)
		wrong(name+" behind others in Dead", refsTo(8, 1), 8, append(slices.Clone(fine), bad...))
	}
	both("a hole", impl.Ptr{})
	for _, p := range wrongPointers() {
		both(fmt.Sprint("the pointer ", p), p)
		p.At = 63
		if p.Birth > 0 && p.Birth < 9 && !impl.PtrOk(p) {
			both(fmt.Sprint("the pointer ", p), p)
		}
	}
	for _, at := range []int{9, 10, 30, 61, 62} {
		both(fmt.Sprint("the free row ", at), toBlock(at, 3, 0, "a"))
	}
	both("too many to a row", refsTo(63, 1, 3, 4, 5)...)
	both("one too often", refsTo(8, 3, 3, 3)...)
	for _, birth := range []int{9, 10, 900} {
		wrong(fmt.Sprint("born in ", birth, " in Gone"), refsTo(63, 1, birth), 0, nil)
		for keep := range 9 {
			wrong(fmt.Sprint("born in ", birth, " in Dead"), nil, keep, refsTo(63, birth))
		}
	}
	for keep := range 8 {
		wrong(fmt.Sprint("born behind ", keep, " in Dead"), nil, keep, refsTo(63, keep+1))
		wrong(fmt.Sprint("born behind ", keep, " in Dead, too"), nil, keep, refsTo(63, max(keep, 1), keep+1))
	}
	wrong("too many to a row in both", refsTo(63, 5, 6), 4, refsTo(63, 4, 3))
	wrong("too many to the first row in both", refsTo(8, 5), 4, refsTo(8, 4, 3))
	wrong("the same ones in both", refsTo(63, 1, 2), 2, refsTo(63, 1, 2))
	return list
}

// wrongStores returns stores that are not valid.
func wrongStores() []namedStore {
	return slices.Concat(wrongGroupStores(), wrongRowStores(), wrongSpaceStores(), wrongGivenStores())
}

// storeFine tells whether a store is valid in another way than the program does: row by row, with all that leads to it.
func storeFine(st impl.Store) bool {
	if len(st.Rows) != 64 || !impl.SpaceOk(st.Space) || st.Txg < 1 || st.Txg > 900 || st.Keep < 0 || st.Keep >= st.Txg {
		return false
	}
	given := map[int]int{}
	for i, p := range append(slices.Clone(st.Gone), st.Dead...) {
		late := p.Birth >= st.Txg
		if i >= len(st.Gone) {
			late = p.Birth > st.Keep
		}
		if !impl.PtrOk(p) || impl.PtrHole(p) || late {
			return false
		}
		given[p.At]++
	}
	for at, text := range st.Rows {
		refs, last := st.Space.Refs[at], st.Space.Last[at]
		if refs == 0 && text != "" || refs > 0 && (text == "" || len(text) > 128) || last > st.Txg || given[at] > refs {
			return false
		}
	}
	return true
}

func TestP52NewStoresHaveNoBlocks(t *testing.T) {
	for _, same := range []bool{false, true} {
		want := emptyStore(1)
		want.Same = same
		st := impl.StoreNew(same)
		if !impl.StoreOk(st) || !sameStore(st, want) {
			t.Errorf("StoreNew(%v) = %v", same, st)
		}
		if now, next := impl.StoreRoom(st); now != 56 || next != 56 {
			t.Errorf("StoreRoom of StoreNew(%v) is %d and %d", same, now, next)
		}
		for _, at := range blockRows() {
			if text, ok := impl.StoreRead(st, toBlock(at, 1, 0, "a")); ok || text != "" {
				t.Errorf("row %d of StoreNew(%v) has %q, %v", at, same, text, ok)
			}
		}
	}
}

func TestP53ValidStores(t *testing.T) {
	for _, c := range validStores() {
		if !storeFine(c.store) {
			t.Fatalf("%s: the store of the test is not valid", c.name)
		}
		now, next := impl.StoreRoom(c.store)
		if !impl.StoreOk(c.store) || now < 0 || next < now {
			t.Errorf("%s: StoreOk is false, or StoreRoom is %d and %d", c.name, now, next)
		}
	}
}

func TestP53StoresThatAreNotValid(t *testing.T) {
	for _, c := range wrongStores() {
		if storeFine(c.store) {
			t.Fatalf("%s: the store of the test is valid", c.name)
		}
		now, next := impl.StoreRoom(c.store)
		if impl.StoreOk(c.store) || now != -1 || next != -1 {
			t.Errorf("%s: StoreOk is true, or StoreRoom is %d and %d", c.name, now, next)
		}
	}
}

// bendStore changes one thing in a store, as random numbers tell, by which it may become another valid one, or none.
func bendStore(st *impl.Store, random *rand.Rand) {
	at := 8 + random.Intn(56)
	p := refTo(at, 1+random.Intn(max(st.Txg, 1)+1))
	switch random.Intn(9) {
	case 0:
		st.Txg += random.Intn(5) - 2
	case 1:
		st.Keep += random.Intn(5) - 2
	case 2:
		st.Rows[at] = []string{"", "a", longBlock(), longBlock() + "x"}[random.Intn(4)]
	case 3:
		st.Space.Refs[at] += random.Intn(3) - 1
	case 4:
		st.Space.Last[at] += random.Intn(5) - 2
	case 5:
		st.Gone = append(st.Gone, p)
	case 6:
		st.Dead = append(st.Dead, p)
	case 7:
		st.Gone, st.Dead = st.Dead, st.Gone
	default:
		st.Rows[at], st.Space.Refs[at], st.Space.Last[at] = "", 0, 0
	}
}

func TestP53StoresBentALittle(t *testing.T) {
	many := map[bool]int{}
	for _, c := range validStores() {
		for seed := range int64(60) {
			random := rand.New(rand.NewSource(seed))
			st := copyStore(c.store)
			for range 1 + seed%2 {
				bendStore(&st, random)
			}
			want := storeFine(st)
			many[want]++
			now, next := impl.StoreRoom(st)
			if ok := impl.StoreOk(st); ok != want || ok != (now != -1) || ok != (next != -1) {
				t.Fatalf("%s, seed %d: StoreOk is %v instead of %v, StoreRoom is %d and %d", c.name, seed, ok, want, now, next)
			}
		}
	}
	if many[true] < 500 || many[false] < 500 {
		t.Errorf("just %d stores were valid and %d were not", many[true], many[false])
	}
}

func TestP54BlocksAreRead(t *testing.T) {
	for _, c := range validStores() {
		for at, text := range c.store.Rows {
			if text == "" {
				continue
			}
			// Neither the birth nor the level of a pointer has to do with what is in the row.
			for _, birth := range []int{1, c.store.Txg, 900, 450} {
				for level := range 3 {
					p := toBlock(at, birth, level, text)
					if got, ok := impl.StoreRead(c.store, p); !ok || got != text || !impl.PtrFits(p, got) {
						t.Errorf("%s: StoreRead of row %d is %q, %v instead of %q", c.name, at, got, ok, text)
					}
				}
			}
		}
		if text, ok := impl.StoreRead(c.store, impl.Ptr{}); !ok || text != "" {
			t.Errorf("%s: StoreRead of a hole is %q, %v", c.name, text, ok)
		}
	}
}

// notRead checks that a pointer leads to nothing in a store.
func notRead(t *testing.T, c namedStore, p impl.Ptr) {
	t.Helper()
	if text, ok := impl.StoreRead(c.store, p); ok || text != "" {
		t.Errorf("%s: StoreRead of %v is %q, %v", c.name, p, text, ok)
	}
}

func TestP54TextsThatDoNotFit(t *testing.T) {
	for _, c := range validStores() {
		for _, at := range blockRows() {
			text := c.store.Rows[at]
			if text == "" {
				for _, other := range append(scatteredTexts(), "x") {
					notRead(t, c, toBlock(at, 1, 0, other))
				}
				continue
			}
			fits := toBlock(at, 1, 0, text)
			for _, n := range []int{1, -1, 9973, 120, -128, 5000} {
				size, sum := fits, fits
				size.Size += n
				sum.Sum += n
				notRead(t, c, size)
				notRead(t, c, sum)
			}
			notRead(t, c, toBlock(at, 1, 0, "other than it"))
			if text != c.store.Rows[8+(at-7)%56] {
				notRead(t, c, toBlock(8+(at-7)%56, 1, 0, text))
			}
		}
	}
}

func TestP54NothingIsReadByWhatIsNotValid(t *testing.T) {
	for _, c := range validStores() {
		for _, p := range wrongPointers() {
			notRead(t, c, p)
		}
		for at, text := range c.store.Rows {
			if text != "" {
				fits := toBlock(at, 1, 0, text)
				for _, part := range pointerParts() {
					for _, n := range []int{part.least - 1, part.top + 1, math.MinInt, math.MaxInt} {
						p := fits
						*part.of(&p) = n
						notRead(t, c, p)
					}
				}
			}
		}
	}
	for _, c := range wrongStores() {
		notRead(t, c, impl.Ptr{})
		for at := 8; at < len(c.store.Rows) && at < 64; at++ {
			if text := c.store.Rows[at]; text != "" && len(text) <= 128 {
				notRead(t, c, toBlock(at, 1, 0, text))
			}
		}
	}
}
