package tests

import (
	"fmt"
	"math/rand"
	"slices"
	"testing"

	"loop.example/poolfiles/impl"
)

// modelBlock is a block that was written, with what leads to it now: references that are needed, and others that were given up.
type modelBlock struct {
	text   string
	needed []impl.Ptr
	given  int
	last   int
}

// modelStore is a store told in another way: by its blocks, and all references that were made to them.
type modelStore struct {
	blocks     map[int]*modelBlock
	txg, keep  int
	gone, dead []impl.Ptr
	same       bool
}

func (m *modelStore) store() impl.Store {
	st := withGiven(emptyStore(m.txg), m.gone, m.keep, m.dead)
	st.Same = m.same
	for at, b := range m.blocks {
		st.Rows[at], st.Space.Refs[at], st.Space.Last[at] = b.text, len(b.needed)+b.given, b.last
	}
	return copyStore(st)
}

// write tells the pointer to a text that is written, or a hole.
func (m *modelStore) write(text string, level int) impl.Ptr {
	found := 0
	for _, at := range slices.Backward(blockRows()) {
		if m.blocks[at] == nil {
			found = at
		}
	}
	for _, at := range slices.Backward(blockRows()) {
		if b := m.blocks[at]; b != nil && b.text == text && b.last != m.txg && m.same && level == 0 {
			found = at
		}
	}
	if found == 0 {
		return impl.Ptr{}
	}
	if m.blocks[found] == nil {
		m.blocks[found] = &modelBlock{text: text}
	}
	p := toBlock(found, m.txg, level, text)
	m.blocks[found].needed = append(m.blocks[found].needed, p)
	m.blocks[found].last = m.txg
	return p
}

// give gives up a reference that is needed.
func (m *modelStore) give(p impl.Ptr) {
	b := m.blocks[p.At]
	b.needed = slices.DeleteFunc(b.needed, func(q impl.Ptr) bool { return q == p })
	switch {
	case p.Birth == m.txg:
		m.sweep()
		return
	case p.Birth <= m.keep:
		m.dead = append(m.dead, p)
	default:
		m.gone = append(m.gone, p)
	}
	b.given++
}

// take takes out what is in Dead: these references are needed again.
func (m *modelStore) take() {
	for _, p := range m.dead {
		b := m.blocks[p.At]
		b.needed = append(b.needed, p)
		b.given--
	}
	m.dead = nil
}

// end ends the group.
func (m *modelStore) end() {
	for _, p := range m.gone {
		m.blocks[p.At].given--
	}
	m.gone = nil
	m.txg++
	m.sweep()
}

// sweep forgets blocks to which nothing leads.
func (m *modelStore) sweep() {
	for at, b := range m.blocks {
		if len(b.needed)+b.given == 0 {
			delete(m.blocks, at)
		}
	}
}

// needed returns all references that are needed.
func (m *modelStore) needed() []impl.Ptr {
	list := []impl.Ptr{}
	for _, at := range blockRows() {
		if b := m.blocks[at]; b != nil {
			list = append(list, b.needed...)
		}
	}
	return list
}

// storeStep does one thing, as random numbers tell, in a store and in its model, and reports whether the store told what the model tells.
func storeStep(st impl.Store, m *modelStore, random *rand.Rand) (impl.Store, bool) {
	list := m.needed()
	switch n := random.Intn(20); {
	case n < 10:
		text, level := fmt.Sprint("text ", random.Intn(30)), random.Intn(6)/4
		next, p, ok := impl.StoreWrite(st, text, level)
		want := m.write(text, level)
		if want == (impl.Ptr{}) {
			return st, !ok && p == want && noStore(next)
		}
		return next, ok && p == want
	case n < 17 && len(list) > 0:
		p := list[random.Intn(len(list))]
		next, ok := impl.StoreFree(st, p)
		m.give(p)
		return next, ok
	case n < 19 && m.txg < 900:
		next, ok := impl.StoreNext(st)
		m.end()
		return next, ok
	default:
		// What later chapters do between the calls: what is in Dead is taken out of the store, as a snapshot needs it, and Keep is another group.
		m.take()
		m.keep = random.Intn(m.txg)
		st.Keep, st.Dead = m.keep, nil
		return st, true
	}
}

// checkSteps checks a store behind a step: it is that of its model, is valid, and has all blocks that are needed.
func checkSteps(t *testing.T, when string, st impl.Store, m *modelStore) {
	t.Helper()
	if !sameStore(st, m.store()) || !impl.StoreOk(st) {
		t.Fatalf("%s: another store, or not valid", when)
	}
	later := map[int]bool{}
	for at, b := range m.blocks {
		gone := 0
		for _, p := range m.gone {
			if p.At == at {
				gone++
			}
		}
		later[at] = len(b.needed)+b.given > gone
	}
	free := 56
	for _, used := range later {
		if used {
			free--
		}
	}
	if now, next := impl.StoreRoom(st); now != 56-len(m.blocks) || next != free {
		t.Fatalf("%s: StoreRoom is %d and %d instead of %d and %d", when, now, next, 56-len(m.blocks), free)
	}
	for _, p := range slices.Concat(m.needed(), m.gone, m.dead) {
		if text, ok := impl.StoreRead(st, p); !ok || text != m.blocks[p.At].text {
			t.Fatalf("%s: StoreRead of %v is %q, %v", when, p, text, ok)
		}
	}
}

func TestP55P56P57ManyStepsAreThoseOfAModel(t *testing.T) {
	for seed := range int64(20) {
		random := rand.New(rand.NewSource(seed))
		same := seed%2 == 0
		st, m := impl.StoreNew(same), &modelStore{blocks: map[int]*modelBlock{}, txg: 1, same: same}
		if seed%5 == 4 {
			st.Txg, m.txg = 890, 890
		}
		for step := range 500 {
			next, ok := storeStep(st, m, random)
			when := fmt.Sprint("seed ", seed, ", step ", step)
			if !ok {
				t.Fatalf("%s: another result", when)
			}
			st = next
			checkSteps(t, when, st, m)
		}
	}
}

// wideStore is a store in memory that goes on behind each of its slices.
func wideStore(st impl.Store) impl.Store {
	st.Rows = append(make([]string, 0, 200), st.Rows...)
	st.Space = impl.Space{Refs: roomBehind(st.Space.Refs), Last: roomBehind(st.Space.Last)}
	st.Gone = append(make([]impl.Ptr, 0, len(st.Gone)+20), st.Gone...)
	st.Dead = append(make([]impl.Ptr, 0, len(st.Dead)+20), st.Dead...)
	return st
}

// zerosBehindStore reports whether nothing was written behind any slice of a store, in its memory.
func zerosBehindStore(st impl.Store) bool {
	texts, gone, dead := st.Rows[len(st.Rows):cap(st.Rows)], st.Gone[len(st.Gone):cap(st.Gone)], st.Dead[len(st.Dead):cap(st.Dead)]
	written := func(p impl.Ptr) bool { return p != impl.Ptr{} }
	return !slices.ContainsFunc(texts, func(text string) bool { return text != "" }) && !slices.ContainsFunc(gone, written) &&
		!slices.ContainsFunc(dead, written) && zerosBehind(st.Space.Refs) && zerosBehind(st.Space.Last)
}

// scrawlStore writes over one slice of a store, and what is behind it in its memory, and in the one with what should be left.
func scrawlStore(st *impl.Store, left *impl.Store, part int) {
	scrawlPointers := func(list []impl.Ptr) {
		list = list[:cap(list)]
		for i := range list {
			list[i] = impl.Ptr{At: -77}
		}
	}
	switch part {
	case 0:
		texts := st.Rows[:cap(st.Rows)]
		for i := range texts {
			texts[i] = "scrawl"
		}
		left.Rows = slices.Clone(st.Rows)
	case 1:
		scrawlNumbers(st.Space.Refs)
		left.Space.Refs = slices.Clone(st.Space.Refs)
	case 2:
		scrawlNumbers(st.Space.Last)
		left.Space.Last = slices.Clone(st.Space.Last)
	case 3:
		scrawlPointers(st.Gone)
		left.Gone = slices.Clone(st.Gone)
	default:
		scrawlPointers(st.Dead)
		left.Dead = slices.Clone(st.Dead)
	}
}

// storeResults returns all stores that come of one by the functions.
func storeResults(st impl.Store) []impl.Store {
	list := []impl.Store{impl.StoreNew(false), impl.StoreNew(true)}
	for level := range 3 {
		for _, text := range []string{"text", "same", "none has it"} {
			next, _, _ := impl.StoreWrite(st, text, level)
			list = append(list, next)
		}
	}
	for _, at := range []int{8, 20, 63} {
		for _, birth := range []int{1, st.Keep, st.Keep + 1, st.Txg - 1, st.Txg, st.Txg + 1} {
			next, _ := impl.StoreFree(st, refTo(at, birth))
			list = append(list, next)
		}
	}
	hole, _ := impl.StoreFree(st, impl.Ptr{})
	next, _ := impl.StoreNext(st)
	impl.StoreRoom(st)
	impl.StoreOk(st)
	impl.StoreRead(st, toBlock(63, 1, 0, "text"))
	return append(list, hole, next)
}

// checkMemory checks that functions do not change a store, and that what is written over one slice of a result is seen nowhere else.
func checkMemory(t *testing.T, c namedStore, resultsOf func(st impl.Store) []impl.Store) {
	t.Helper()
	st := wideStore(c.store)
	results := resultsOf(st)
	if !sameStore(st, c.store) || !zerosBehindStore(st) {
		t.Fatalf("%s: an argument was changed", c.name)
	}
	left := []impl.Store{}
	for _, result := range results {
		left = append(left, copyStore(result))
	}
	for i := range results {
		for part := range 5 {
			scrawlStore(&results[i], &left[i], part)
			if !sameStore(st, c.store) || !zerosBehindStore(st) {
				t.Fatalf("%s: slice %d of result %d shares memory with the argument", c.name, part, i)
			}
			if !slices.EqualFunc(results, left, sameStore) {
				t.Fatalf("%s: slice %d of result %d shares memory with another one", c.name, part, i)
			}
		}
	}
}

func TestStoresShareNoMemory(t *testing.T) {
	for _, c := range validStores() {
		checkMemory(t, c, storeResults)
	}
	for i, c := range wrongStores() {
		// The functions return nothing for each of these, so that some of them do.
		if i%20 == 0 {
			checkMemory(t, c, storeResults)
		}
	}
}

func TestStoresThatAreNotValidAreNotChanged(t *testing.T) {
	for _, c := range wrongStores() {
		st := wideStore(c.store)
		storeResults(st)
		if !sameStore(st, c.store) || !zerosBehindStore(st) {
			t.Fatalf("%s: an argument was changed", c.name)
		}
	}
}
