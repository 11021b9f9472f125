package image

import (
	"bytes"
	"math"
	"math/rand"
	"slices"
	"testing"

	"carling/api"
	"carling/dev"
	"carling/eager"
	"carling/lazy"
	"carling/seal"
	"carling/shape"
	"carling/tree"
)

// noKinds are no kinds of images that are mounted; the lowest bits of some are one's.
var noKinds = []int{math.MinInt, math.MinInt + 1, -1 << 32, 1 - 1<<32, -256, -255, -2, -1, 0, 3, 4, 5, 255, 256, 257, 258, 1 << 32, 1<<32 + 1, 1<<32 + 2, math.MaxInt - 1, math.MaxInt}

// noPages are no pages of any image; the lowest bits of some are one's.
var noPages = []int{math.MinInt, math.MinInt + 1, -1 << 32, -1<<32 + 1, -256, -7, -2, -1, 216, 217, 256, 257, 65536, 1 << 32, 1<<32 + 1, math.MaxInt - 1, math.MaxInt}

// badBytes are how many bytes no page has.
var badBytes = []int{0, 1, 64, 255, 257, 512}

// hows are ways to hold an image that is mounted.
var hows = []How{{Kind: Eager}, {Kind: Lazy, Room: 4}, {Kind: Lazy, Room: 5, Ahead: 16}, {Kind: Lazy, Room: 1024, Ahead: 2}}

func key() [32]byte {
	var k [32]byte
	for i := range k {
		k[i] = byte(i + 1)
	}
	return k
}

// page are 256 bytes that tell k and their places, none of them 0.
func page(k int) []byte {
	b := make([]byte, 256)
	for i := range b {
		b[i] = byte((i*7+k*31)%251 + 1)
	}
	return b
}

func pagesOf(many int) [][]byte {
	var l [][]byte
	for k := range many {
		l = append(l, page(k))
	}
	return l
}

// zeros are so many pages of bytes 0.
func zeros(many int) [][]byte {
	var l [][]byte
	for range many {
		l = append(l, make([]byte, 256))
	}
	return l
}

// laid is an image that lies in a store.
type laid struct {
	s    shape.Shape
	root seal.Ref
	st   *dev.Store
}

func layOf(t *testing.T, pages [][]byte) laid {
	t.Helper()
	s, e := shape.New(len(pages))
	if e != api.OK {
		t.Fatal(e)
	}
	puts, root, e := tree.Make(nil, key(), 1, pages)
	if e != api.OK {
		t.Fatal(e)
	}
	st, e := dev.New(s.Blocks())
	if e != api.OK || tree.Lay(st, puts) != api.OK {
		t.Fatal(e)
	}
	st.Flush()
	return laid{s: s, root: root, st: st}
}

// turn turns a byte of an item's block, wherever that is.
func (l laid) turn(item, at int) {
	for place := range 2 {
		block := l.s.Block(item, place)
		was, _ := l.st.Read(block)
		l.st.Tamper(block, at, []byte{was[at] ^ 1<<(at%8)})
	}
}

func (l laid) mount(t *testing.T, how How, b *seal.Book) *Image {
	t.Helper()
	m, e := Mount(how, b, l.st, key(), l.s, l.root)
	if e != api.OK || m == nil {
		t.Fatalf("Mount %v of %d pages: %v", how, l.s.Pages(), e)
	}
	return m
}

func plainOf(t *testing.T, pages [][]byte) *Image {
	t.Helper()
	m, e := New(len(pages))
	if e != api.OK || m == nil {
		t.Fatal(len(pages), e)
	}
	for n, b := range pages {
		wantSet(t, m, n, b)
	}
	return m
}

func wantSet(t *testing.T, m *Image, n int, b []byte) {
	t.Helper()
	if e := m.Set(n, b); e != api.OK {
		t.Fatalf("Set of the page %d of the kind %d: %v", n, m.Kind(), e)
	}
}

// wantAll fails unless an image has these pages, one by one and all at once.
func wantAll(t *testing.T, m *Image, want [][]byte) {
	t.Helper()
	if m.Pages() != len(want) {
		t.Fatalf("%d pages, want %d", m.Pages(), len(want))
	}
	if l, e := m.All(); e != api.OK || !samePages(l, want) {
		t.Fatalf("All of the kind %d: %d pages, %v, want %d, or others", m.Kind(), len(l), e, len(want))
	}
	for n := range want {
		if b, e := m.Page(n); e != api.OK || !bytes.Equal(b, want[n]) {
			t.Fatalf("the page %d of the kind %d: %x, %v, want %x", n, m.Kind(), b, e, want[n])
		}
	}
}

// wantNone fails unless All tells an error, and nothing else.
func wantNone(t *testing.T, m *Image, want api.Errno) {
	t.Helper()
	if l, e := m.All(); len(l) != 0 || e != want {
		t.Fatalf("All: %d pages, %v, want %v", len(l), e, want)
	}
}

// wantDead fails unless an image is one of layer 18 that is dead.
func wantDead(t *testing.T, m *Image) {
	t.Helper()
	for range 2 {
		wantNone(t, m, api.ErrCorrupt)
		for _, n := range append(slices.Clone(noPages), 0, 1, 215) {
			if b, e := m.Page(n); len(b) != 0 || e != api.ErrCorrupt {
				t.Fatal(n, b, e)
			}
			for _, b := range [][]byte{nil, page(1), page(1)[:9]} {
				if e := m.Set(n, b); e != api.ErrCorrupt {
					t.Fatal(n, e)
				}
			}
		}
		if puts, root, e := m.Plan(3); len(puts) != 0 || root != (seal.Ref{}) || e != api.ErrCorrupt {
			t.Fatal(puts, root, e)
		}
		if e := m.Done(); e != api.ErrCorrupt {
			t.Fatal(e)
		}
		m.Drop()
		if m.Kind() != Lazy || !m.Dead() || len(m.Dirty()) != 0 || m.Root() != (seal.Ref{}) || m.Pages() != 0 {
			t.Fatal(m.Kind(), m.Dead(), m.Dirty(), m.Root(), m.Pages())
		}
	}
}

func samePages(a, b [][]byte) bool {
	return slices.EqualFunc(a, b, func(x, y []byte) bool { return bytes.Equal(x, y) })
}

func samePuts(a, b []tree.Put) bool {
	return slices.EqualFunc(a, b, func(x, y tree.Put) bool { return x.Block == y.Block && bytes.Equal(x.Bytes, y.Bytes) })
}

// layer is what layers 17 and 18 have as well.
type layer interface {
	Page(n int) ([]byte, api.Errno)
	Set(n int, page []byte) api.Errno
	Dirty() []int
	Drop()
	Plan(epoch uint32) ([]tree.Put, seal.Ref, api.Errno)
	Done() api.Errno
	Root() seal.Ref
	Pages() int
}

// layerOf is an image that layer 17 or 18 mounts.
func layerOf(t *testing.T, how How, b *seal.Book, l laid) layer {
	t.Helper()
	if how.Kind == Eager {
		m, e := eager.Mount(b, l.st, key(), l.s, l.root)
		if e != api.OK {
			t.Fatal(e)
		}
		return m
	}
	m, e := lazy.Mount(b, l.st, key(), l.s, l.root, how.Room, how.Ahead)
	if e != api.OK {
		t.Fatal(e)
	}
	return m
}

// isDead tells whether a layer's image is dead: layer 17's never is.
func isDead(w layer) bool {
	m, ok := w.(*lazy.Image)
	return ok && m.Dead()
}

// Example 1: New(2): two pages of 0.
func TestPublishedExample(t *testing.T) {
	m, e := New(2)
	if e != api.OK {
		t.Fatal(e)
	}
	wantAll(t, m, zeros(2))
}

// P19.1: the kinds have their numbers, and each image has its kind.
func TestKinds(t *testing.T) {
	if Eager != 1 || Lazy != 2 || Plain != 3 {
		t.Fatal(Eager, Lazy, Plain)
	}
	l := layOf(t, pagesOf(7))
	for _, how := range hows {
		if m := l.mount(t, how, nil); m.Kind() != how.Kind {
			t.Fatal(how, m.Kind())
		}
	}
	if m := plainOf(t, pagesOf(7)); m.Kind() != Plain {
		t.Fatal(m.Kind())
	}
}

// P19.1: neither Eager nor Lazy is ErrArg, ahead of all else, and nothing is looked at.
func TestMountRefusesKinds(t *testing.T) {
	l := layOf(t, pagesOf(7))
	var book seal.Book
	for _, kind := range noKinds {
		for _, how := range []How{{Kind: kind}, {Kind: kind, Room: 9, Ahead: 2}} {
			for _, st := range []*dev.Store{l.st, nil, {}} {
				for _, s := range []shape.Shape{l.s, {}} {
					if m, e := Mount(how, &book, st, key(), s, l.root); m != nil || e != api.ErrArg || book.Len() != 0 {
						t.Fatal(how, m, e)
					}
				}
			}
		}
	}
}

// P19.1: else Mount tells what that layer's Mount tells: the same errors, with the same texts noted.
func TestMountRefusesAsItsLayer(t *testing.T) {
	good := layOf(t, pagesOf(7))
	small, e := dev.New(20)
	if e != api.OK {
		t.Fatal(e)
	}
	bad := layOf(t, pagesOf(7))
	bad.turn(3, 5)
	seen := map[api.Errno]int{}
	for _, st := range []*dev.Store{good.st, bad.st, small, nil, {}} {
		for _, s := range []shape.Shape{good.s, {}} {
			for _, place := range []int{0, 1, 2, -1} {
				root := good.root
				root.Place = place
				var mine, other seal.Book
				_, want := eager.Mount(&other, st, key(), s, root)
				m, e := Mount(How{Kind: Eager}, &mine, st, key(), s, root)
				if e != want || (m == nil) != (e != api.OK) || !samePages(mine.Texts(), other.Texts()) {
					t.Fatalf("%v, want %v, %v", e, want, m)
				}
				seen[e]++
				for _, room := range []int{4, 3, 1024, 1025, 0, -1} {
					for _, ahead := range []int{0, 16, 17, -1} {
						_, want := lazy.Mount(&other, st, key(), s, root, room, ahead)
						m, e := Mount(How{Kind: Lazy, Room: room, Ahead: ahead}, &mine, st, key(), s, root)
						if e != want || (m == nil) != (e != api.OK) || !samePages(mine.Texts(), other.Texts()) {
							t.Fatalf("%d, %d: %v, want %v, %v", room, ahead, e, want, m)
						}
					}
				}
			}
		}
	}
	for _, e := range []api.Errno{api.OK, api.ErrArg, api.ErrNil, api.ErrCorrupt} {
		if seen[e] == 0 {
			t.Fatal("not seen:", e)
		}
	}
}

// P19.1: Room and Ahead count for Lazy alone.
func TestRoomAndAhead(t *testing.T) {
	l := layOf(t, pagesOf(7))
	for _, room := range []int{math.MinInt, -1, 0, 3, 4, 1024, 1025, math.MaxInt} {
		for _, ahead := range []int{math.MinInt, -1, 0, 16, 17, math.MaxInt} {
			wantAll(t, l.mount(t, How{Kind: Eager, Room: room, Ahead: ahead}, nil), pagesOf(7))
			m, e := Mount(How{Kind: Lazy, Room: room, Ahead: ahead}, nil, l.st, key(), l.s, l.root)
			if room < 4 || room > 1024 || ahead < 0 || ahead > 16 {
				if m != nil || e != api.ErrArg {
					t.Fatal(room, ahead, m, e)
				}
				continue
			}
			wantAll(t, m, pagesOf(7))
		}
	}
}

// P19.1: of Eager all is looked at by Mount, of Lazy what is needed, and as much ahead as was told.
func TestMountLooks(t *testing.T) {
	l := layOf(t, pagesOf(7))
	var book seal.Book
	l.mount(t, How{Kind: Eager}, &book)
	if book.Len() != 10 {
		t.Fatal(book.Len())
	}
	for ahead, want := range []int{3, 4, 5, 6, 7, 8, 10, 10} {
		var book seal.Book
		m := l.mount(t, How{Kind: Lazy, Room: 100, Ahead: ahead}, &book)
		if book.Len() != 0 {
			t.Fatal(book.Len())
		}
		if _, e := m.Page(0); e != api.OK || book.Len() != want {
			t.Fatal(ahead, e, book.Len())
		}
	}
}

// P19.1: to mount writes nothing, and neither do any of an image's calls.
func TestNothingIsWritten(t *testing.T) {
	for _, how := range hows {
		l := layOf(t, pagesOf(43))
		was, trace := l.st.Bytes(), l.st.Trace()
		m := l.mount(t, how, nil)
		for _, n := range []int{0, 17, 42} {
			wantSet(t, m, n, page(n+100))
		}
		for range 2 {
			if _, _, e := m.Plan(2); e != api.OK {
				t.Fatal(e)
			}
			if e := m.Done(); e != api.OK {
				t.Fatal(e)
			}
		}
		m.Drop()
		if !bytes.Equal(l.st.Bytes(), was) || !slices.Equal(l.st.Trace(), trace) {
			t.Fatal("the store was turned", how)
		}
	}
}

// P19.1: all calls tell what that layer's tell, whatever is called, in any order, also where it is tampered; as much is looked at.
func TestAsItsLayer(t *testing.T) {
	r := rand.New(rand.NewSource(191))
	dead := 0
	for round := range 160 {
		pages := 1 + r.Intn(60)
		mine, others := layOf(t, pagesOf(pages)), layOf(t, pagesOf(pages))
		how := hows[round%len(hows)]
		if how.Kind == Lazy {
			how.Room, how.Ahead = 4+r.Intn(60), r.Intn(17)
		}
		var book, other seal.Book
		m, w := mine.mount(t, how, &book), layerOf(t, how, &other, others)
		for range 80 {
			if round%3 == 0 && r.Intn(20) == 0 {
				item, at := r.Intn(mine.s.Items()), r.Intn(256)
				mine.turn(item, at)
				others.turn(item, at)
			}
			wantStep(t, r, m, w, mine.st, others.st)
		}
		if !samePages(book.Texts(), other.Texts()) || !bytes.Equal(mine.st.Bytes(), others.st.Bytes()) {
			t.Fatal("other texts were noted, or laid", how)
		}
		if m.Dead() {
			dead++
			wantDead(t, m)
		}
	}
	if dead == 0 {
		t.Fatal("none died")
	}
}

// wantStep fails unless a call that is drawn tells the same of an image and of a layer's.
func wantStep(t *testing.T, r *rand.Rand, m *Image, w layer, mine, others *dev.Store) {
	t.Helper()
	n := r.Intn(62) - 1
	switch r.Intn(10) {
	case 0, 1, 2:
		b := page(r.Intn(3) + n)[:256-r.Intn(20)/19]
		if x, y := m.Set(n, b), w.Set(n, b); x != y {
			t.Fatal("Set", n, x, y)
		}
	case 3:
		puts, root, x := m.Plan(uint32(n))
		other, next, y := w.Plan(uint32(n))
		if x != y || root != next || !samePuts(puts, other) {
			t.Fatal("Plan", x, y, root, next)
		}
		tree.Lay(mine, puts)
		tree.Lay(others, other)
		mine.Flush()
		others.Flush()
	case 4:
		if x, y := m.Done(), w.Done(); x != y {
			t.Fatal("Done", x, y)
		}
	case 5:
		if r.Intn(3) == 0 {
			m.Drop()
			w.Drop()
		}
	default:
		b, x := m.Page(n)
		if c, y := w.Page(n); x != y || !bytes.Equal(b, c) {
			t.Fatal("Page", n, x, y)
		}
	}
	if !slices.Equal(m.Dirty(), w.Dirty()) || m.Root() != w.Root() || m.Pages() != w.Pages() || m.Dead() != isDead(w) {
		t.Fatal(m.Dirty(), w.Dirty(), m.Root(), w.Root(), m.Pages(), w.Pages(), m.Dead())
	}
}

// P19.1: plain images have 1 to 216 pages, of 0 at first.
func TestNew(t *testing.T) {
	for pages := 1; pages <= 216; pages++ {
		m, e := New(pages)
		if e != api.OK {
			t.Fatal(pages, e)
		}
		wantAll(t, m, zeros(pages))
	}
	for _, pages := range append(slices.Clone(noPages), 0) {
		if pages == 216 {
			continue
		}
		if m, e := New(pages); m != nil || e != api.ErrArg {
			t.Fatal(pages, m, e)
		}
	}
}

// wantPlain fails unless an image is plain, with these pages: nothing is pending, and nothing is to be written.
func wantPlain(t *testing.T, m *Image, want [][]byte) {
	t.Helper()
	if m.Kind() != Plain || len(m.Dirty()) != 0 || m.Root() != (seal.Ref{}) || m.Dead() {
		t.Fatal(m.Kind(), m.Dirty(), m.Root(), m.Dead())
	}
	wantAll(t, m, want)
}

// P19.1: of a plain image what was set is there at once, and stays, whatever is called.
func TestPlain(t *testing.T) {
	r := rand.New(rand.NewSource(192))
	for _, pages := range []int{1, 2, 6, 7, 43, 216} {
		m, want := plainOf(t, zeros(pages)), zeros(pages)
		wantPlain(t, m, want)
		for range 60 {
			n := r.Intn(pages)
			want[n] = page(r.Intn(251))
			wantSet(t, m, n, want[n])
			wantPlain(t, m, want)
			switch r.Intn(4) {
			case 0:
				m.Drop()
			case 1:
				if puts, root, e := m.Plan(r.Uint32() >> r.Intn(32)); len(puts) != 0 || root != (seal.Ref{}) || e != api.OK {
					t.Fatal(puts, root, e)
				}
			case 2:
				if e := m.Done(); e != api.OK {
					t.Fatal(e)
				}
			}
			wantPlain(t, m, want)
		}
	}
}

// P19.1: of a new plain image Done and Plan tell OK, whichever comes first.
func TestPlainWithoutPlan(t *testing.T) {
	for _, epoch := range []uint32{0, 1, math.MaxUint32} {
		m := plainOf(t, zeros(3))
		for range 3 {
			if e := m.Done(); e != api.OK {
				t.Fatal(e)
			}
			if puts, root, e := m.Plan(epoch); len(puts) != 0 || root != (seal.Ref{}) || e != api.OK {
				t.Fatal(puts, root, e)
			}
			m.Drop()
		}
		wantPlain(t, m, zeros(3))
	}
}

// P19.1: of any kind no page, and bytes that are none, are ErrArg, and turn nothing.
func TestNoPages(t *testing.T) {
	for _, pages := range []int{1, 7, 216} {
		l := layOf(t, pagesOf(pages))
		images := []*Image{plainOf(t, pagesOf(pages))}
		for _, how := range hows {
			images = append(images, l.mount(t, how, nil))
		}
		for _, m := range images {
			for _, n := range append(slices.Clone(noPages), pages, pages+1, l.s.Root()) {
				if b, e := m.Page(n); len(b) != 0 || e != api.ErrArg {
					t.Fatal(m.Kind(), n, b, e)
				}
				for _, b := range [][]byte{page(99), nil, page(99)[:255]} {
					if e := m.Set(n, b); e != api.ErrArg {
						t.Fatal(m.Kind(), n, e)
					}
				}
			}
			for n := range pages {
				for _, many := range badBytes {
					if e := m.Set(n, append(page(98), page(99)...)[:many]); e != api.ErrArg {
						t.Fatal(m.Kind(), n, many, e)
					}
				}
			}
			wantAll(t, m, pagesOf(pages))
			if len(m.Dirty()) != 0 {
				t.Fatal(m.Kind(), m.Dirty())
			}
		}
	}
}

// P19.1: who holds all is not dead, whatever comes over the store; who looks as it is needed is, as soon as that is corrupt.
func TestDead(t *testing.T) {
	for _, how := range hows {
		l := layOf(t, pagesOf(43))
		m := l.mount(t, how, nil)
		if m.Dead() {
			t.Fatal(how)
		}
		for item := range l.s.Items() {
			l.turn(item, item)
		}
		if how.Kind == Eager {
			wantAll(t, m, pagesOf(43))
			wantSet(t, m, 3, page(99))
			if _, _, e := m.Plan(2); e != api.OK || m.Done() != api.OK || m.Dead() {
				t.Fatal(e)
			}
			continue
		}
		if b, e := m.Page(7); len(b) != 0 || e != api.ErrCorrupt {
			t.Fatal(b, e)
		}
		wantDead(t, m)
	}
}

// P19.2: All tells all pages, in order, what is pending ahead of what was committed, and turns neither.
func TestAll(t *testing.T) {
	for _, pages := range []int{1, 2, 6, 7, 36, 37, 216} {
		for _, how := range hows {
			l := layOf(t, pagesOf(pages))
			m, want := l.mount(t, how, nil), pagesOf(pages)
			wantAll(t, m, want)
			of := slices.Compact([]int{0, pages / 2, pages - 1})
			for _, n := range of {
				want[n] = page(n + 100)
				wantSet(t, m, n, want[n])
				wantAll(t, m, want)
			}
			puts, root, e := m.Plan(2)
			if wantAll(t, m, want); e != api.OK || !slices.Equal(m.Dirty(), of) || m.Root() != l.root {
				t.Fatal(e, m.Dirty())
			}
			if tree.Lay(l.st, puts) != api.OK || m.Done() != api.OK || m.Root() != root || len(m.Dirty()) != 0 {
				t.Fatal(how, m.Root(), m.Dirty())
			}
			wantAll(t, m, want)
			wantSet(t, m, 0, page(200))
			m.Drop()
			wantAll(t, m, want)
			l.root = root
			for _, anew := range hows {
				wantAll(t, l.mount(t, anew, nil), want)
			}
		}
	}
}

// P19.2: All tells the first error, and no page, whichever item is corrupt: then the image is dead.
func TestAllOfTampered(t *testing.T) {
	for _, pages := range []int{1, 7, 43} {
		for item := range layOf(t, pagesOf(pages)).s.Items() {
			for _, how := range hows[1:] {
				l := layOf(t, pagesOf(pages))
				m := l.mount(t, how, nil)
				l.turn(item, 9)
				wantNone(t, m, api.ErrCorrupt)
				wantDead(t, m)
			}
		}
	}
}

// P19.2: an error that is not ErrCorrupt is told by All, too, as often as it is asked: nobody is dead of it.
func TestAllOfNoStore(t *testing.T) {
	l := layOf(t, pagesOf(7))
	small, e := dev.New(19)
	if e != api.OK {
		t.Fatal(e)
	}
	for _, c := range []struct {
		st   *dev.Store
		want api.Errno
	}{{nil, api.ErrNil}, {&dev.Store{}, api.ErrNil}, {small, api.ErrArg}} {
		m, e := Mount(hows[1], nil, c.st, key(), l.s, l.root)
		if e != api.OK {
			t.Fatal(e)
		}
		for range 3 {
			wantNone(t, m, c.want)
			if m.Dead() || m.Pages() != 7 || m.Root() != l.root {
				t.Fatal(m.Dead(), m.Pages(), m.Root())
			}
		}
	}
}

// P19.2: a nil image, and one that nobody made.
func TestUnmade(t *testing.T) {
	for _, m := range []*Image{nil, {}, new(Image)} {
		for range 2 {
			wantNone(t, m, api.ErrNil)
			for _, n := range append(slices.Clone(noPages), 0, 1) {
				if b, e := m.Page(n); len(b) != 0 || e != api.ErrNil {
					t.Fatal(n, b, e)
				}
				for _, b := range [][]byte{nil, page(1), page(1)[:9]} {
					if e := m.Set(n, b); e != api.ErrNil {
						t.Fatal(n, e)
					}
				}
			}
			for _, epoch := range []uint32{0, 1, math.MaxUint32} {
				if puts, root, e := m.Plan(epoch); len(puts) != 0 || root != (seal.Ref{}) || e != api.ErrNil {
					t.Fatal(puts, root, e)
				}
			}
			if e := m.Done(); e != api.ErrNil {
				t.Fatal(e)
			}
			m.Drop()
			if m.Kind() != 0 || len(m.Dirty()) != 0 || m.Root() != (seal.Ref{}) || m.Pages() != 0 || m.Dead() {
				t.Fatal(m.Kind(), m.Dirty(), m.Root(), m.Pages(), m.Dead())
			}
		}
	}
}

// P19.3: images of all kinds to which the same was set, behind the same pages, have the same pages; those that are mounted plan the same, round by round.
func TestSameOfAllKinds(t *testing.T) {
	r := rand.New(rand.NewSource(193))
	for range 20 {
		pages := 1 + r.Intn(60)
		want := pagesOf(pages)
		plain := plainOf(t, want)
		var lies []laid
		var mounted []*Image
		for _, how := range hows {
			l := layOf(t, want)
			lies = append(lies, l)
			mounted = append(mounted, l.mount(t, how, nil))
		}
		all := append(slices.Clone(mounted), plain)
		for round := range 8 {
			for range r.Intn(1 + pages/2) {
				n, b := r.Intn(pages), page(r.Intn(251))
				if r.Intn(4) == 0 {
					b = page(n)
				}
				want[n] = b
				for _, m := range all {
					wantSet(t, m, n, b)
				}
			}
			for _, m := range all {
				wantAll(t, m, want)
			}
			wantSamePlans(t, mounted, lies, uint32(round+2))
		}
	}
}

// wantSamePlans fails unless images plan the same. It is laid, and, every other round, committed.
func wantSamePlans(t *testing.T, mounted []*Image, lies []laid, epoch uint32) {
	t.Helper()
	first, next, e := mounted[0].Plan(epoch)
	if e != api.OK {
		t.Fatal(e)
	}
	for i, m := range mounted {
		puts, root, e := m.Plan(epoch)
		if e != api.OK || root != next || !samePuts(puts, first) || !slices.Equal(m.Dirty(), mounted[0].Dirty()) || m.Root() != mounted[0].Root() {
			t.Fatalf("the image %d: %v, %d puts, want %d, or others", i, e, len(puts), len(first))
		}
	}
	if epoch%2 == 1 {
		return
	}
	for i, m := range mounted {
		if tree.Lay(lies[i].st, first) != api.OK || m.Done() != api.OK || m.Root() != next || len(m.Dirty()) != 0 {
			t.Fatalf("the image %d: the root %v, %v pending", i, m.Root(), m.Dirty())
		}
	}
}

// R3: what one image does plays no part in another one.
func TestTwoImages(t *testing.T) {
	l := layOf(t, pagesOf(7))
	for _, how := range hows {
		m, n := l.mount(t, how, nil), l.mount(t, how, nil)
		wantSet(t, m, 3, page(99))
		wantAll(t, n, pagesOf(7))
	}
	m, n := plainOf(t, zeros(7)), plainOf(t, zeros(7))
	wantSet(t, m, 3, page(99))
	wantPlain(t, n, zeros(7))
	wantPlain(t, plainOf(t, zeros(7)), zeros(7))
}

// R4: no call writes into what it is handed, or keeps it; what is answered is the caller's.
func TestListsAreTheCallers(t *testing.T) {
	l := layOf(t, pagesOf(7))
	images := []*Image{plainOf(t, pagesOf(7))}
	for _, how := range hows {
		images = append(images, l.mount(t, how, nil))
	}
	for _, m := range images {
		want := pagesOf(7)
		handed := append(page(100), page(101)...)
		wantSet(t, m, 3, handed[:256])
		if !bytes.Equal(handed, append(page(100), page(101)...)) {
			t.Fatal(m.Kind(), "Set wrote into its page")
		}
		clear(handed)
		want[3] = page(100)
		wantAll(t, m, want)
		for n := range 7 {
			b, _ := m.Page(n)
			clear(append(b, b...))
			clear(b)
		}
		pages, _ := m.All()
		for n := range pages {
			clear(append(pages[n], pages[n]...))
			clear(pages[n])
			if n+1 < len(pages) && !bytes.Equal(pages[n+1], want[n+1]) {
				t.Fatal(m.Kind(), "pages share bytes")
			}
		}
		clear(append(pages, pages...))
		clear(pages)
		dirty := m.Dirty()
		clear(append(dirty, dirty...))
		clear(dirty)
		wantAll(t, m, want)
	}
}
