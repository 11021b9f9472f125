package epoch

import (
	"math"
	"math/rand"
	"slices"
	"testing"

	"carling/api"
)

// lasts are numbers that a meter may begin with, up to the greatest one.
func lasts() []uint32 {
	return []uint32{0, 1, 2, 5, 254, 255, 256, 65534, 65535, 65536, math.MaxInt32 - 1, math.MaxInt32, math.MaxInt32 + 1, math.MaxUint32 - 2, math.MaxUint32 - 1, math.MaxUint32}
}

// noBlocks are numbers that no block has; the lowest bits of some are a block's.
func noBlocks() []int {
	return []int{-1, -2, -3, -255, -256, math.MinInt32, -1 << 32, -1<<32 + 3, math.MinInt + 3, math.MinInt}
}

func wantReserve(t *testing.T, m *Meter, want uint32) {
	t.Helper()
	if n, e := m.Reserve(); n != want || e != api.OK {
		t.Fatalf("Reserve: %d, %v, want %d", n, e, want)
	}
}

// wantNoReserve fails if one is reserved, or it is refused by another error; what is answered beside it is to be 0.
func wantNoReserve(t *testing.T, m *Meter, want api.Errno) {
	t.Helper()
	if n, e := m.Reserve(); n != 0 || e != want {
		t.Fatalf("Reserve: %d, %v, want %v", n, e, want)
	}
}

func wantUse(t *testing.T, m *Meter, block int, want api.Errno) {
	t.Helper()
	if e := m.Use(block); e != want {
		t.Fatalf("Use(%d): %v, want %v", block, e, want)
	}
}

func wantDone(t *testing.T, m *Meter, want api.Errno) {
	t.Helper()
	if e := m.Done(); e != want {
		t.Fatalf("Done: %v, want %v", e, want)
	}
}

// wantTells fails if a meter tells other numbers, or uses.
func wantTells(t *testing.T, m *Meter, last, now uint32, used ...Use) {
	t.Helper()
	for range 2 {
		if m.Last() != last || m.Now() != now || m.Left() != math.MaxUint32-last {
			t.Fatalf("Last %d, Now %d, Left %d, want %d, %d, %d", m.Last(), m.Now(), m.Left(), last, now, math.MaxUint32-last)
		}
		if l := m.Used(); !slices.Equal(l, used) {
			t.Fatalf("Used: %v, want %v", l, used)
		}
	}
}

// The document's example.
func TestPublishedExample(t *testing.T) {
	wantReserve(t, New(5), 6)
}

// P8.1, P8.2: a new meter has its Last, none reserved, and no uses.
func TestNew(t *testing.T) {
	for _, last := range lasts() {
		m := New(last)
		wantTells(t, m, last, 0)
		wantDone(t, m, api.ErrArg)
		wantUse(t, m, 0, api.ErrArg)
		wantTells(t, m, last, 0)
	}
}

// P8.1: what is reserved is one more than Last, and Last from then on.
func TestReserve(t *testing.T) {
	for _, last := range lasts() {
		if last == math.MaxUint32 {
			continue
		}
		m := New(last)
		wantReserve(t, m, last+1)
		wantTells(t, m, last+1, last+1)
		wantDone(t, m, api.OK)
		wantTells(t, m, last+1, 0)
	}
}

// P8.1, R7: with one reserved none else is, at the end, too; nothing turns.
func TestReserveTwice(t *testing.T) {
	for _, last := range lasts() {
		if last == math.MaxUint32 {
			continue
		}
		m := New(last)
		wantReserve(t, m, last+1)
		wantUse(t, m, 7, api.OK)
		for range 3 {
			wantNoReserve(t, m, api.ErrThere)
			wantTells(t, m, last+1, last+1, Use{last + 1, 7})
		}
		wantUse(t, m, 7, api.ErrThere)
		wantUse(t, m, 8, api.OK)
		wantDone(t, m, api.OK)
	}
}

// P8.1, R2: behind the greatest one there is none: the meter stays at its end, and does not begin anew.
func TestReserveAtTheEnd(t *testing.T) {
	m := New(math.MaxUint32 - 2)
	wantReserve(t, m, math.MaxUint32-1)
	wantDone(t, m, api.OK)
	wantReserve(t, m, math.MaxUint32)
	wantUse(t, m, 3, api.OK)
	wantNoReserve(t, m, api.ErrThere)
	wantDone(t, m, api.OK)
	for range 3 {
		wantNoReserve(t, m, api.ErrEpoch)
		wantTells(t, m, math.MaxUint32, 0, Use{math.MaxUint32, 3})
		wantUse(t, m, 4, api.ErrArg)
		wantDone(t, m, api.ErrArg)
	}
	m = New(math.MaxUint32)
	for range 3 {
		wantNoReserve(t, m, api.ErrEpoch)
		wantTells(t, m, math.MaxUint32, 0)
	}
}

// P8.1, P8.3: a block is used once in an epoch, however great its number, and in the next one again.
func TestUse(t *testing.T) {
	m := New(10)
	blocks := []int{0, 1, 255, 256, 257, 1023, 1024, 1 << 16, 1<<16 + 1, math.MaxInt32, 1 << 32, 1<<32 + 1, math.MaxInt - 1, math.MaxInt}
	var want []Use
	for n := uint32(11); n < 15; n++ {
		wantReserve(t, m, n)
		for i, block := range blocks {
			wantUse(t, m, block, api.OK)
			want = append(want, Use{n, block})
			for _, was := range blocks[:i+1] {
				wantUse(t, m, was, api.ErrThere)
			}
			wantTells(t, m, n, n, want...)
		}
		wantDone(t, m, api.OK)
		wantTells(t, m, n, 0, want...)
	}
}

// P8.1, R7: of no block: ErrArg, and nothing turns.
func TestUseOfNoBlock(t *testing.T) {
	m := New(0)
	wantReserve(t, m, 1)
	for _, block := range noBlocks() {
		wantUse(t, m, block, api.ErrArg)
		wantUse(t, m, block, api.ErrArg)
		wantTells(t, m, 1, 1)
	}
	for block := range 4 {
		wantUse(t, m, block, api.OK)
	}
	for _, block := range noBlocks() {
		wantUse(t, m, block, api.ErrArg)
	}
	wantTells(t, m, 1, 1, Use{1, 0}, Use{1, 1}, Use{1, 2}, Use{1, 3})
}

// P8.1, R7: with none reserved: ErrArg, of a block that was used, too; what was refused counts nowhere.
func TestUseWithNoneReserved(t *testing.T) {
	m := New(4)
	refused := func(used ...Use) {
		t.Helper()
		for _, block := range append(noBlocks(), 0, 1, 2, math.MaxInt) {
			wantUse(t, m, block, api.ErrArg)
		}
		wantTells(t, m, m.Last(), 0, used...)
	}
	refused()
	wantReserve(t, m, 5)
	wantUse(t, m, 1, api.OK)
	wantDone(t, m, api.OK)
	refused(Use{5, 1})
	wantReserve(t, m, 6)
	for _, block := range []int{math.MaxInt, 2, 1, 0} {
		wantUse(t, m, block, api.OK)
	}
	wantTells(t, m, 6, 6, Use{5, 1}, Use{6, math.MaxInt}, Use{6, 2}, Use{6, 1}, Use{6, 0})
}

// P8.1: what is done is none any more: Done again is refused, and turns nothing.
func TestDone(t *testing.T) {
	m := New(0)
	for n := uint32(1); n < 20; n++ {
		wantDone(t, m, api.ErrArg)
		wantTells(t, m, n-1, 0)
		wantReserve(t, m, n)
		wantDone(t, m, api.OK)
		wantDone(t, m, api.ErrArg)
		wantTells(t, m, n, 0)
	}
}

// P8.2: uses are told in the order in which they came, whatever their blocks.
func TestUsedInOrder(t *testing.T) {
	m := New(99)
	var want []Use
	for n := uint32(100); n < 103; n++ {
		wantReserve(t, m, n)
		for i := range 300 {
			block := (i*211 + int(n)) % 300
			wantUse(t, m, block, api.OK)
			want = append(want, Use{n, block})
		}
		wantDone(t, m, api.OK)
	}
	for range 5 {
		wantTells(t, m, 102, 0, want...)
	}
	if slices.IsSortedFunc(want, func(a, b Use) int { return a.Block - b.Block }) {
		t.Fatal("the uses tell nothing of their order")
	}
}

// P8.2: Left is how many can be reserved, the one that is by now not among them.
func TestLeft(t *testing.T) {
	for left := range uint32(5) {
		m := New(math.MaxUint32 - left)
		for more := left; more > 0; more-- {
			if m.Left() != more {
				t.Fatalf("Left: %d, want %d", m.Left(), more)
			}
			wantReserve(t, m, math.MaxUint32-more+1)
			if m.Left() != more-1 {
				t.Fatalf("Left with one reserved: %d, want %d", m.Left(), more-1)
			}
			wantDone(t, m, api.OK)
		}
		if m.Left() != 0 {
			t.Fatalf("Left at the end: %d", m.Left())
		}
		wantNoReserve(t, m, api.ErrEpoch)
	}
}

// P8.2: of a nil meter: ErrNil, 0, nothing, at all arguments.
func TestNilMeter(t *testing.T) {
	var m *Meter
	for range 2 {
		wantNoReserve(t, m, api.ErrNil)
		for _, block := range append(noBlocks(), 0, 1, math.MaxInt) {
			wantUse(t, m, block, api.ErrNil)
		}
		wantDone(t, m, api.ErrNil)
		if m.Last() != 0 || m.Now() != 0 || m.Left() != 0 || len(m.Used()) != 0 {
			t.Fatalf("of none: Last %d, Now %d, Left %d, Used %v", m.Last(), m.Now(), m.Left(), m.Used())
		}
	}
}

// R1: a meter that nobody made panics nowhere: it is as one of Last 0.
func TestZeroMeter(t *testing.T) {
	m := new(Meter)
	wantTells(t, m, 0, 0)
	wantUse(t, m, 3, api.ErrArg)
	wantDone(t, m, api.ErrArg)
	wantReserve(t, m, 1)
	wantUse(t, m, 3, api.OK)
	wantUse(t, m, 3, api.ErrThere)
	wantDone(t, m, api.OK)
	wantTells(t, m, 1, 0, Use{1, 3})
}

// R4: what is answered is the caller's: to write into it, or behind it, turns nothing.
func TestAnswersAreTheCallers(t *testing.T) {
	m := New(0)
	wantReserve(t, m, 1)
	var want []Use
	for block := range 40 {
		wantUse(t, m, block, api.OK)
		want = append(want, Use{1, block})
		mine := m.Used()
		was := slices.Clone(mine)
		clear(append(mine, Use{9, 9}, Use{8, 8}))
		clear(mine)
		mine = m.Used()
		wantUse(t, m, 1000+block, api.OK)
		want = append(want, Use{1, 1000 + block})
		if !slices.Equal(mine, was) {
			t.Fatalf("a use turned an answer: %v, want %v", mine, was)
		}
		wantTells(t, m, 1, 1, want...)
		wantUse(t, m, block, api.ErrThere)
	}
}

// R3: meters share nothing.
func TestMetersAreTheirOwn(t *testing.T) {
	one, two := New(7), New(7)
	wantReserve(t, one, 8)
	wantTells(t, two, 7, 0)
	wantReserve(t, two, 8)
	wantUse(t, one, 5, api.OK)
	wantTells(t, two, 8, 8)
	wantUse(t, two, 5, api.OK)
	wantUse(t, two, 6, api.OK)
	wantDone(t, two, api.OK)
	wantTells(t, one, 8, 8, Use{8, 5})
	wantTells(t, two, 8, 0, Use{8, 5}, Use{8, 6})
}

// model is a meter by the document's words.
type model struct {
	last, now uint32
	used      []Use
}

func (m *model) reserve() (uint32, api.Errno) {
	switch {
	case m.now > 0:
		return 0, api.ErrThere
	case uint64(m.last)+1 > math.MaxUint32:
		return 0, api.ErrEpoch
	}
	m.last, m.now = m.last+1, m.last+1
	return m.now, api.OK
}

func (m *model) use(block int) api.Errno {
	switch {
	case m.now == 0 || block < 0:
		return api.ErrArg
	case slices.Contains(m.used, Use{m.now, block}):
		return api.ErrThere
	}
	m.used = append(m.used, Use{m.now, block})
	return api.OK
}

func (m *model) done() api.Errno {
	if m.now == 0 {
		return api.ErrArg
	}
	m.now = 0
	return api.OK
}

// P8.1 to P8.3, R5: calls in any order answer as the document's words tell; epochs rise, and no use is there twice.
func TestRandomRuns(t *testing.T) {
	for seed := range int64(80) {
		r := rand.New(rand.NewSource(seed))
		last := lasts()[r.Intn(len(lasts()))]
		m, want := New(last), &model{last: last}
		reserved := []uint32{last}
		for range 300 {
			switch r.Intn(8) {
			case 0:
				n, e := m.Reserve()
				if wantN, wantE := want.reserve(); n != wantN || e != wantE {
					t.Fatalf("seed %d: Reserve: %d, %v, want %d, %v", seed, n, e, wantN, wantE)
				}
				if e == api.OK {
					reserved = append(reserved, n)
				}
			case 1:
				wantDone(t, m, want.done())
			default:
				block := r.Intn(14) - 2
				wantUse(t, m, block, want.use(block))
			}
			wantTells(t, m, want.last, want.now, want.used...)
		}
		for i := 1; i < len(reserved); i++ {
			if reserved[i] <= reserved[i-1] {
				t.Fatalf("seed %d: the epochs do not rise: %d", seed, reserved)
			}
		}
		wantOnce(t, m.Used())
	}
}

// wantOnce fails if a use is there twice.
func wantOnce(t *testing.T, uses []Use) {
	t.Helper()
	seen := map[Use]int{}
	for _, u := range uses {
		if seen[u]++; seen[u] > 1 {
			t.Fatalf("the use %v is there twice", u)
		}
	}
}

// P8.3: what is reserved, and what is used in it, is there once, over many epochs of the same blocks.
func TestNothingIsThereTwice(t *testing.T) {
	m := New(0)
	seen := map[uint32]int{}
	for range 2000 {
		n, e := m.Reserve()
		if seen[n]++; e != api.OK || seen[n] > 1 {
			t.Fatalf("Reserve: %d, %v", n, e)
		}
		for block := range 6 {
			m.Use(block)
			m.Use(5 - block)
		}
		m.Done()
	}
	if l := m.Used(); len(l) != 12000 {
		t.Fatalf("Used: %d of them", len(l))
	}
	wantOnce(t, m.Used())
}

// P8.4: meters that begin anew, each with the Last of the one ahead, share no use, whether the one ahead was done or not.
func TestBeginningAnew(t *testing.T) {
	r := rand.New(rand.NewSource(8))
	var all []Use
	last := uint32(3)
	for range 200 {
		m := New(last)
		for range r.Intn(4) {
			if _, e := m.Reserve(); e != api.OK {
				t.Fatalf("Reserve: %v", e)
			}
			for range r.Intn(12) {
				m.Use(r.Intn(8))
			}
			if r.Intn(3) == 0 {
				break
			}
			wantDone(t, m, api.OK)
		}
		all = append(all, m.Used()...)
		if m.Last() < last {
			t.Fatalf("Last: %d, behind %d", m.Last(), last)
		}
		last = m.Last()
	}
	wantOnce(t, all)
	if len(all) < 500 {
		t.Fatalf("%d uses tell too little", len(all))
	}
}
