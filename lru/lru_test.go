package lru

import (
	"bytes"
	"math"
	"math/rand"
	"slices"
	"testing"

	"carling/api"
)

// rooms are those that a cache may have: the least, the most, and some between.
var rooms = []int{1, 2, 3, 4, 7, 63, 64, 255, 256, 257, 1023, 1024}

// badRooms are none; the lowest bits of some are a room's.
var badRooms = []int{math.MinInt, math.MinInt + 5, -1 << 32, -1<<32 + 1, -1024, -2, -1, 0, 1025, 1026, 2048, 4096, 65536 + 4, 1 << 32, 1<<32 + 1, math.MaxInt - 1, math.MaxInt}

// badItems are none; the lowest bits of some are an item's.
var badItems = []int{math.MinInt, math.MinInt + 5, -1 << 32, -1<<32 + 1, -4096, -4095, -2, -1, 4096, 4097, 8192, 8192 + 7, 65536, 1 << 32, 1<<32 + 1, math.MaxInt - 1, math.MaxInt}

// fill is a page of bytes that tell k and their places.
func fill(k int) []byte {
	b := make([]byte, api.Block)
	for i := range b {
		b[i] = byte((i*7+k*31+k>>8)%255 + 1)
	}
	return b
}

// made is an empty cache of some room.
func made(t *testing.T, room int) *Cache {
	t.Helper()
	c, e := New(room)
	if e != api.OK || c == nil {
		t.Fatalf("New(%d): %v, %v", room, c, e)
	}
	return c
}

// holding is a cache that holds fill(item) for each of some items, used in this order.
func holding(t *testing.T, room int, items ...int) *Cache {
	t.Helper()
	c := made(t, room)
	for _, item := range items {
		wantPut(t, c, item, fill(item), -1)
	}
	return c
}

// wantPut fails unless a page is held, and just that one goes.
func wantPut(t *testing.T, c *Cache, item int, page []byte, want int) {
	t.Helper()
	if went, e := c.Put(item, page); went != want || e != api.OK {
		t.Fatalf("Put(%d): %d, %v, want %d", item, went, e, want)
	}
}

func wantNoPut(t *testing.T, c *Cache, item int, want api.Errno) {
	t.Helper()
	if went, e := c.Put(item, fill(1)); went != -1 || e != want {
		t.Fatalf("Put(%d): %d, %v, want -1, %v", item, went, e, want)
	}
}

func wantPin(t *testing.T, c *Cache, item int, page []byte, want api.Errno) {
	t.Helper()
	if e := c.Pin(item, page); e != want {
		t.Fatalf("Pin(%d): %v, want %v", item, e, want)
	}
}

func wantUnpin(t *testing.T, c *Cache, item, want int) {
	t.Helper()
	if went, ok := c.Unpin(item); went != want || !ok {
		t.Fatalf("Unpin(%d): %d, %v, want %d", item, went, ok, want)
	}
}

func wantNoUnpin(t *testing.T, c *Cache, item int) {
	t.Helper()
	if went, ok := c.Unpin(item); went != -1 || ok {
		t.Fatalf("Unpin(%d): %d, %v, want none", item, went, ok)
	}
}

func wantDrop(t *testing.T, c *Cache, item int, want bool) {
	t.Helper()
	if was := c.Drop(item); was != want {
		t.Fatalf("Drop(%d): %v, want %v", item, was, want)
	}
}

func wantGet(t *testing.T, c *Cache, item int, want []byte) {
	t.Helper()
	if page, ok := c.Get(item); !ok || !bytes.Equal(page, want) {
		t.Fatalf("Get(%d): %x, %v, want %x", item, page, ok, want)
	}
}

func wantNoGet(t *testing.T, c *Cache, item int) {
	t.Helper()
	if page, ok := c.Get(item); len(page) != 0 || ok {
		t.Fatalf("Get(%d): %x, %v, want none", item, page, ok)
	}
}

// wantOrder fails unless just these are held, the one that was used last first: what looks at them turns nothing.
func wantOrder(t *testing.T, c *Cache, want ...int) {
	t.Helper()
	for range 2 {
		if got := c.Order(); !slices.Equal(got, want) {
			t.Fatalf("Order: %v, want %v", got, want)
		}
		if c.Len() != len(want) {
			t.Fatalf("Len: %d, want %d", c.Len(), len(want))
		}
		for _, item := range want {
			if !c.Has(item) {
				t.Fatalf("Has(%d): false", item)
			}
		}
	}
}

// wantPinned fails unless just these are pinned.
func wantPinned(t *testing.T, c *Cache, want ...int) {
	t.Helper()
	for range 2 {
		if got := c.Pinned(); !slices.Equal(got, want) {
			t.Fatalf("Pinned: %v, want %v", got, want)
		}
	}
}

// The document's example.
func TestPublishedExample(t *testing.T) {
	c := made(t, 1)
	wantPut(t, c, 1, fill(1), -1)
	wantPut(t, c, 2, fill(2), 1)
	wantNoGet(t, c, 1)
	wantGet(t, c, 2, fill(2))
}

// P15.1, P15.2: a cache has room for 1 to 1024 pages, and none at first.
func TestNew(t *testing.T) {
	for _, room := range rooms {
		c := made(t, room)
		if c.Room() != room {
			t.Fatalf("Room: %d, want %d", c.Room(), room)
		}
		wantOrder(t, c)
		wantPinned(t, c)
		for _, item := range []int{0, 1, 4095} {
			if c.Has(item) {
				t.Fatalf("Has(%d) of an empty one", item)
			}
			wantNoGet(t, c, item)
			wantNoUnpin(t, c, item)
			wantDrop(t, c, item, false)
		}
	}
}

// P15.1: other rooms may not be.
func TestNewRefuses(t *testing.T) {
	for _, room := range badRooms {
		if c, e := New(room); c != nil || e != api.ErrArg {
			t.Fatalf("New(%d): %v, %v", room, c, e)
		}
	}
}

// P15.1: as many as room are held; of more, the one that was used the longest ago goes, at all rooms.
func TestPutLetsOneGo(t *testing.T) {
	for _, room := range rooms {
		c := made(t, room)
		var want []int
		for n := range 2*room + 3 {
			item := n * 5 % 4096
			went := -1
			if n >= room {
				went = want[room-1]
				want = want[:room-1]
			}
			wantPut(t, c, item, fill(n), went)
			want = slices.Insert(want, 0, item)
			if went >= 0 && c.Has(went) {
				t.Fatalf("room %d: the item %d went, and is held", room, went)
			}
			if n%37 == 0 {
				wantOrder(t, c, want...)
			}
		}
		wantOrder(t, c, want...)
		for i, item := range want {
			wantGet(t, c, item, fill(2*room+2-i))
		}
	}
}

// P15.1, P15.3: what is put for an item that is held takes the old page's place, was used last, and nothing goes.
func TestPutAgain(t *testing.T) {
	c := holding(t, 3, 10, 20, 30)
	wantPut(t, c, 10, fill(1), -1)
	wantOrder(t, c, 10, 30, 20)
	wantPut(t, c, 10, fill(2), -1)
	wantOrder(t, c, 10, 30, 20)
	wantGet(t, c, 10, fill(2))
	wantPut(t, c, 30, fill(3), -1)
	wantOrder(t, c, 30, 10, 20)
	wantPut(t, c, 40, fill(4), 20)
	wantPut(t, c, 50, fill(5), 10)
	wantPut(t, c, 60, fill(6), 30)
	wantOrder(t, c, 60, 50, 40)
}

// P15.1: items are 0 to 4095, for Put and Pin; others are refused, and nothing turns.
func TestItems(t *testing.T) {
	for _, room := range []int{1, 3, 1024} {
		c := made(t, room)
		wantPut(t, c, 7, fill(7), -1)
		wantPin(t, c, 8, fill(8), api.OK)
		for _, item := range badItems {
			wantNoPut(t, c, item, api.ErrArg)
			wantPin(t, c, item, fill(1), api.ErrArg)
			wantNoGet(t, c, item)
			wantNoUnpin(t, c, item)
			wantDrop(t, c, item, false)
			if c.Has(item) {
				t.Fatalf("Has(%d)", item)
			}
			wantOrder(t, c, 8, 7)
			wantPinned(t, c, 8)
		}
		wantGet(t, c, 7, fill(7))
		wantGet(t, c, 8, fill(8))
	}
	for _, item := range []int{0, 1, 255, 256, 1023, 1024, 4094, 4095} {
		c := made(t, 1)
		wantPut(t, c, item, fill(item), -1)
		wantGet(t, c, item, fill(item))
		wantDrop(t, c, item, true)
		wantPin(t, c, item, fill(item), api.OK)
		wantGet(t, c, item, fill(item))
		wantPinned(t, c, item)
		wantUnpin(t, c, item, -1)
		wantPut(t, c, 2000, nil, item)
	}
}

// P15.1: what is got was used last; what is not held is not held then, either.
func TestGet(t *testing.T) {
	c := holding(t, 3, 1, 2, 3)
	wantGet(t, c, 1, fill(1))
	wantOrder(t, c, 1, 3, 2)
	wantGet(t, c, 1, fill(1))
	wantOrder(t, c, 1, 3, 2)
	wantGet(t, c, 3, fill(3))
	wantOrder(t, c, 3, 1, 2)
	wantNoGet(t, c, 4)
	wantOrder(t, c, 3, 1, 2)
	wantPut(t, c, 4, fill(4), 2)
	wantNoGet(t, c, 2)
	wantOrder(t, c, 4, 3, 1)
	wantGet(t, c, 1, fill(1))
	wantPut(t, c, 2, fill(22), 3)
	wantGet(t, c, 2, fill(22))
}

// P15.1: Has tells what is held, and does not use it.
func TestHas(t *testing.T) {
	c := holding(t, 2, 1, 2)
	wantPin(t, c, 3, nil, api.OK)
	for item := range 6 {
		if want := item >= 1 && item <= 3; c.Has(item) != want {
			t.Fatalf("Has(%d): want %v", item, want)
		}
	}
	c.Has(1)
	wantOrder(t, c, 3, 2, 1)
	wantPut(t, c, 4, nil, 1)
	if c.Has(1) || !c.Has(4) {
		t.Fatal("Has tells what went")
	}
}

// P15.1: a page may have any number of bytes, none at all, too: it is held then.
func TestPagesOfAnySize(t *testing.T) {
	c := made(t, 20)
	pages := [][]byte{nil, {}, {0}, {1, 2}, fill(3)[:255], fill(4), append(fill(5), 6), make([]byte, 70000)}
	for item, page := range pages {
		wantPut(t, c, item, page, -1)
		wantPin(t, c, 100+item, page, api.OK)
	}
	for item, page := range pages {
		wantGet(t, c, item, page)
		wantGet(t, c, 100+item, page)
	}
	wantPut(t, c, 5, nil, -1)
	wantGet(t, c, 5, nil)
}

// P15.2, P15.4: what is pinned never goes by itself, and does not count for what is held.
func TestPin(t *testing.T) {
	c := made(t, 2)
	for item := range 10 {
		wantPin(t, c, item, fill(item), api.OK)
	}
	wantOrder(t, c, 9, 8, 7, 6, 5, 4, 3, 2, 1, 0)
	wantPinned(t, c, 0, 1, 2, 3, 4, 5, 6, 7, 8, 9)
	wantPut(t, c, 20, fill(20), -1)
	wantPut(t, c, 21, fill(21), -1)
	wantPut(t, c, 22, fill(22), 20)
	wantPut(t, c, 23, fill(23), 21)
	wantOrder(t, c, 23, 22, 9, 8, 7, 6, 5, 4, 3, 2, 1, 0)
	if c.Len() != 12 || c.Room() != 2 {
		t.Fatalf("Len: %d, Room: %d", c.Len(), c.Room())
	}
	for item := range 10 {
		wantGet(t, c, item, fill(item))
	}
	wantPut(t, c, 24, fill(24), 22)
	wantOrder(t, c, 24, 9, 8, 7, 6, 5, 4, 3, 2, 1, 0, 23)
}

// P15.2, P15.3: a page that is held may be pinned, again, too: it is the new one, was used last, and nothing goes.
func TestPinWhatIsHeld(t *testing.T) {
	c := holding(t, 2, 1, 2)
	wantPin(t, c, 1, fill(11), api.OK)
	wantOrder(t, c, 1, 2)
	wantPinned(t, c, 1)
	wantGet(t, c, 1, fill(11))
	wantPut(t, c, 3, fill(3), -1)
	wantOrder(t, c, 3, 1, 2)
	wantPin(t, c, 1, fill(12), api.OK)
	wantOrder(t, c, 1, 3, 2)
	wantPinned(t, c, 1)
	wantGet(t, c, 1, fill(12))
	wantPut(t, c, 4, fill(4), 2)
	wantOrder(t, c, 4, 1, 3)
	wantUnpin(t, c, 1, 3)
	wantNoUnpin(t, c, 1)
}

// P15.1: what is put for an item that is pinned leaves it pinned, and was used last.
func TestPutStaysPinned(t *testing.T) {
	c := made(t, 1)
	wantPin(t, c, 1, fill(1), api.OK)
	wantPin(t, c, 2, fill(2), api.OK)
	wantPut(t, c, 3, fill(3), -1)
	wantPut(t, c, 1, fill(4), -1)
	wantPinned(t, c, 1, 2)
	wantOrder(t, c, 1, 3, 2)
	wantGet(t, c, 1, fill(4))
	wantPut(t, c, 5, fill(5), 3)
	wantPut(t, c, 6, fill(6), 5)
	wantOrder(t, c, 6, 1, 2)
	wantPinned(t, c, 1, 2)
}

// P15.1, P15.2: pinned ones that were used the longest ago are passed over, wherever they stand.
func TestPinnedArePassedOver(t *testing.T) {
	c := holding(t, 4, 1, 3, 5, 7)
	for _, item := range []int{2, 4, 6} {
		wantPin(t, c, item, fill(item), api.OK)
	}
	for _, item := range []int{2, 4, 1, 6, 3, 5, 7} {
		wantGet(t, c, item, fill(item))
	}
	wantOrder(t, c, 7, 5, 3, 6, 1, 4, 2)
	wantPut(t, c, 9, fill(9), 1)
	wantPut(t, c, 11, fill(11), 3)
	wantOrder(t, c, 11, 9, 7, 5, 6, 4, 2)
}

// P15.2: what is pinned no more was used last, and counts again: if there are too many then, another one goes.
func TestUnpin(t *testing.T) {
	c := made(t, 2)
	for item := 1; item <= 4; item++ {
		wantPin(t, c, item, fill(item), api.OK)
	}
	wantUnpin(t, c, 1, -1)
	wantOrder(t, c, 1, 4, 3, 2)
	wantPinned(t, c, 2, 3, 4)
	wantUnpin(t, c, 3, -1)
	wantOrder(t, c, 3, 1, 4, 2)
	wantPinned(t, c, 2, 4)
	wantUnpin(t, c, 2, 1)
	wantOrder(t, c, 2, 3, 4)
	wantPinned(t, c, 4)
	wantGet(t, c, 3, fill(3))
	wantUnpin(t, c, 4, 2)
	wantOrder(t, c, 4, 3)
	wantPinned(t, c)
	wantGet(t, c, 4, fill(4))
	wantPut(t, c, 5, fill(5), 3)
}

// P15.2: what is not pinned cannot be unpinned, held or not: nothing turns, and it was not used.
func TestUnpinOfNone(t *testing.T) {
	c := holding(t, 2, 1, 2)
	wantPin(t, c, 3, fill(3), api.OK)
	for range 2 {
		wantNoUnpin(t, c, 1)
		wantNoUnpin(t, c, 2)
		wantNoUnpin(t, c, 4)
		wantOrder(t, c, 3, 2, 1)
		wantPinned(t, c, 3)
	}
	wantUnpin(t, c, 3, 1)
	wantNoUnpin(t, c, 3)
	wantNoUnpin(t, c, 1)
	wantOrder(t, c, 3, 2)
}

// P15.2: those that are pinned are told by their numbers, however they were used.
func TestPinnedRise(t *testing.T) {
	c := made(t, 1)
	for _, item := range []int{4095, 3, 0, 300, 256, 1, 2000, 40} {
		wantPin(t, c, item, nil, api.OK)
	}
	wantPinned(t, c, 0, 1, 3, 40, 256, 300, 2000, 4095)
	wantOrder(t, c, 40, 2000, 1, 256, 300, 0, 3, 4095)
	wantUnpin(t, c, 256, -1)
	wantDrop(t, c, 0, true)
	wantPinned(t, c, 1, 3, 40, 300, 2000, 4095)
}

// P15.2: what was dropped is not held any more, pinned or not, and leaves its room.
func TestDrop(t *testing.T) {
	c := holding(t, 3, 1, 2, 3)
	wantPin(t, c, 4, fill(4), api.OK)
	wantDrop(t, c, 2, true)
	wantDrop(t, c, 2, false)
	wantOrder(t, c, 4, 3, 1)
	wantNoGet(t, c, 2)
	wantPut(t, c, 5, fill(5), -1)
	wantPut(t, c, 6, fill(6), 1)
	wantDrop(t, c, 4, true)
	wantDrop(t, c, 4, false)
	wantPinned(t, c)
	wantNoUnpin(t, c, 4)
	wantNoGet(t, c, 4)
	wantOrder(t, c, 6, 5, 3)
	wantPut(t, c, 4, fill(44), 3)
	wantPinned(t, c)
	wantOrder(t, c, 4, 6, 5)
	wantGet(t, c, 4, fill(44))
}

// P15.2: all may be dropped, in any order; the cache is empty then, and has its room.
func TestDropAll(t *testing.T) {
	r := rand.New(rand.NewSource(15))
	for _, room := range []int{1, 2, 60} {
		c := made(t, room)
		for range 3 {
			for _, item := range r.Perm(room) {
				wantPut(t, c, item, nil, -1)
				wantPin(t, c, 100+item, nil, api.OK)
			}
			for _, item := range r.Perm(room) {
				wantDrop(t, c, item, true)
				wantDrop(t, c, 100+item, true)
			}
			wantOrder(t, c)
			wantPinned(t, c)
		}
	}
}

// P15.1, P15.2: all items may be pinned at once, in a cache with little room; to unpin them lets them go one by one.
func TestAllPinned(t *testing.T) {
	const items, room = 4096, 2
	c := made(t, room)
	var all []int
	for item := range items {
		wantPin(t, c, item, fill(item), api.OK)
		all = append(all, item)
	}
	wantPinned(t, c, all...)
	if c.Len() != items {
		t.Fatalf("Len: %d", c.Len())
	}
	for item := range items {
		went := item - room
		if item < room {
			went = -1
		}
		wantUnpin(t, c, item, went)
	}
	wantOrder(t, c, items-1, items-2)
	wantPinned(t, c)
}

// P15.2: of a nil cache, and one that New did not give: ErrNil, nothing, -1, 0, false, at all arguments.
func TestNoCache(t *testing.T) {
	for _, c := range []*Cache{nil, new(Cache)} {
		for range 2 {
			for _, item := range append([]int{0, 1, 4095}, badItems...) {
				wantNoPut(t, c, item, api.ErrNil)
				wantPin(t, c, item, fill(1), api.ErrNil)
				wantNoGet(t, c, item)
				wantNoUnpin(t, c, item)
				wantDrop(t, c, item, false)
				if c.Has(item) {
					t.Fatalf("Has(%d) of none", item)
				}
			}
			wantOrder(t, c)
			wantPinned(t, c)
			if c.Room() != 0 {
				t.Fatalf("Room of none: %d", c.Room())
			}
		}
	}
}

// R4: what is handed in is neither written into nor kept.
func TestPagesAreTheCallers(t *testing.T) {
	c := made(t, 2)
	one, two := fill(1), fill(2)
	wantPut(t, c, 1, one, -1)
	wantPin(t, c, 2, two, api.OK)
	wantGet(t, c, 1, fill(1))
	if !bytes.Equal(one, fill(1)) || !bytes.Equal(two, fill(2)) {
		t.Fatal("a page was written into")
	}
	clear(one)
	clear(two)
	wantGet(t, c, 1, fill(1))
	wantGet(t, c, 2, fill(2))
}

// R4: what is answered is the caller's: to write into it, or behind it, turns nothing.
func TestAnswersAreTheCallers(t *testing.T) {
	c := holding(t, 3, 1, 2)
	wantPin(t, c, 8, fill(8), api.OK)
	wantPin(t, c, 9, fill(9), api.OK)
	for _, item := range []int{1, 2, 8, 9} {
		mine, _ := c.Get(item)
		clear(append(mine, 1, 2, 3))
		clear(mine)
		wantGet(t, c, item, fill(item))
	}
	for _, ask := range []func() []int{c.Order, c.Pinned} {
		mine := ask()
		clear(append(mine, 4, 4))
		clear(mine)
	}
	wantOrder(t, c, 9, 8, 2, 1)
	wantPinned(t, c, 8, 9)
	order, pinned := c.Order(), c.Pinned()
	page, _ := c.Get(1)
	wantPut(t, c, 1, fill(11), -1)
	wantDrop(t, c, 8, true)
	wantPin(t, c, 3, nil, api.OK)
	if !slices.Equal(order, []int{9, 8, 2, 1}) || !slices.Equal(pinned, []int{8, 9}) || !bytes.Equal(page, fill(1)) {
		t.Fatalf("a call turned an answer: %v, %v, %x", order, pinned, page)
	}
}

// R3: caches share nothing.
func TestCachesAreTheirOwn(t *testing.T) {
	one, two := made(t, 2), made(t, 3)
	wantPut(t, one, 1, fill(1), -1)
	wantPin(t, one, 2, fill(2), api.OK)
	wantOrder(t, two)
	wantPinned(t, two)
	wantPut(t, two, 1, fill(3), -1)
	wantPin(t, two, 2, fill(4), api.OK)
	wantDrop(t, one, 1, true)
	wantUnpin(t, one, 2, -1)
	wantGet(t, one, 2, fill(2))
	wantGet(t, two, 1, fill(3))
	wantPinned(t, two, 2)
	wantOrder(t, one, 2)
	wantOrder(t, two, 1, 2)
	if one.Room() != 2 || two.Room() != 3 {
		t.Fatalf("Room: %d, %d", one.Room(), two.Room())
	}
}

// held is a page as a model has it.
type held struct {
	item   int
	page   []byte
	pinned bool
}

// model is a cache by the document's words: those that are held, the one that was used last first.
type model struct {
	room int
	list []held
}

func (m *model) at(item int) int {
	return slices.IndexFunc(m.list, func(h held) bool { return h.item == item })
}

// take takes an item out, and tells what it was, and whether it was there.
func (m *model) take(item int) (held, bool) {
	i := m.at(item)
	if i < 0 {
		return held{item: item}, false
	}
	h := m.list[i]
	m.list = slices.Delete(m.list, i, i+1)
	return h, true
}

// first lets one stand first, and tells which one goes for it.
func (m *model) first(h held) int {
	m.list = slices.Insert(m.list, 0, h)
	loose := 0
	for i, h := range m.list {
		if h.pinned {
			continue
		}
		if loose++; loose > m.room {
			m.list = slices.Delete(m.list, i, i+1)
			return h.item
		}
	}
	return -1
}

func (m *model) put(item int, page []byte, pin bool) int {
	h, _ := m.take(item)
	return m.first(held{item, page, h.pinned || pin})
}

func (m *model) get(item int) ([]byte, bool) {
	h, ok := m.take(item)
	if ok {
		m.first(h)
	}
	return h.page, ok
}

func (m *model) unpin(item int) (int, bool) {
	i := m.at(item)
	if i < 0 || !m.list[i].pinned {
		return -1, false
	}
	h, _ := m.take(item)
	h.pinned = false
	return m.first(h), true
}

// items are those that are held, in order, and those of them that are pinned, rising.
func (m *model) items() (all, pinned []int) {
	for _, h := range m.list {
		all = append(all, h.item)
		if h.pinned {
			pinned = append(pinned, h.item)
		}
	}
	slices.Sort(pinned)
	return all, pinned
}

// step is one call, of a cache and of its model.
func step(t *testing.T, r *rand.Rand, c *Cache, m *model, item int, page []byte) {
	t.Helper()
	switch r.Intn(10) {
	case 0, 1, 2:
		wantPut(t, c, item, page, m.put(item, page, false))
	case 3:
		m.put(item, page, true)
		wantPin(t, c, item, page, api.OK)
	case 4, 5:
		went, ok := c.Unpin(item)
		if wantWent, want := m.unpin(item); went != wantWent || ok != want {
			t.Fatalf("Unpin(%d): %d, %v, want %d, %v", item, went, ok, wantWent, want)
		}
	case 6:
		_, want := m.take(item)
		wantDrop(t, c, item, want)
	case 7:
		if want := m.at(item) >= 0; c.Has(item) != want {
			t.Fatalf("Has(%d): want %v", item, want)
		}
	default:
		got, ok := c.Get(item)
		if want, wantOK := m.get(item); ok != wantOK || !bytes.Equal(got, want) {
			t.Fatalf("Get(%d): %x, %v, want %x, %v", item, got, ok, want, wantOK)
		}
	}
}

// P15.1 to P15.4, R5: calls in any order answer as the document's words tell.
func TestRandomRuns(t *testing.T) {
	for seed := range int64(60) {
		r := rand.New(rand.NewSource(seed))
		room := 1 + r.Intn(6)
		items := 1 + r.Intn(4*room)
		c, m := made(t, room), &model{room: room}
		for n := range 400 {
			step(t, r, c, m, r.Intn(items), fill(n))
			all, pinned := m.items()
			wantOrder(t, c, all...)
			wantPinned(t, c, pinned...)
			if loose := c.Len() - len(c.Pinned()); loose > room {
				t.Fatalf("seed %d: %d are held that are not pinned, in a room of %d", seed, loose, room)
			}
		}
		for _, h := range slices.Clone(m.list) {
			wantGet(t, c, h.item, h.page)
		}
	}
}

// P15.1 to P15.4: so in great rooms, with many items.
func TestGreatRandomRuns(t *testing.T) {
	for seed := range int64(4) {
		r := rand.New(rand.NewSource(seed))
		room := []int{1024, 1023, 500, 257}[seed]
		c, m := made(t, room), &model{room: room}
		for n := range 6000 {
			step(t, r, c, m, r.Intn(4096), []byte{byte(n), byte(n >> 8)})
			if n%500 == 0 {
				all, pinned := m.items()
				wantOrder(t, c, all...)
				wantPinned(t, c, pinned...)
			}
		}
		all, pinned := m.items()
		wantOrder(t, c, all...)
		wantPinned(t, c, pinned...)
		if len(all)-len(pinned) < room/2 {
			t.Fatalf("seed %d: %d that are held, %d of them pinned, tell too little", seed, len(all), len(pinned))
		}
	}
}
