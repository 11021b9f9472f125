package eager

import (
	"bytes"
	"crypto/sha256"
	"encoding/binary"
	"encoding/hex"
	"maps"
	"math"
	"math/rand"
	"slices"
	"testing"

	"carling/api"
	"carling/dev"
	"carling/seal"
	"carling/shape"
	"carling/tree"
)

// sizes are numbers of pages: the least, the most, and those about a level's end.
var sizes = []int{1, 2, 5, 6, 7, 12, 13, 35, 36, 37, 42, 43, 72, 73, 180, 181, 215, 216}

// badPlaces are no places of a block; the lowest bits of some are one's.
var badPlaces = []int{math.MinInt, math.MinInt + 1, -1 << 32, -256, -255, -2, -1, 2, 3, 255, 256, 257, 1 << 32, 1<<32 + 1, math.MaxInt - 1, math.MaxInt}

// noPages are no pages of any image; the lowest bits of some are one's.
var noPages = []int{math.MinInt, math.MinInt + 1, -1 << 32, -1<<32 + 1, -256, -7, -2, -1, 216, 217, 256, 257, 65536, 1 << 32, 1<<32 + 1, math.MaxInt - 1, math.MaxInt}

// badBytes are how many bytes no page has.
var badBytes = []int{0, 1, 64, 255, 257, 512}

func key() [32]byte {
	var k [32]byte
	for i := range k {
		k[i] = byte(i + 1)
	}
	return k
}

// page are 256 bytes that tell k and their places, none of them 0.
func page(k int) []byte {
	b := make([]byte, 256)
	for i := range b {
		b[i] = byte((i*7+k*31)%251 + 1)
	}
	return b
}

func pagesOf(many int) [][]byte {
	var l [][]byte
	for k := range many {
		l = append(l, page(k))
	}
	return l
}

// upTo are the numbers from 0 on, so many.
func upTo(many int) []int {
	var l []int
	for k := range many {
		l = append(l, k)
	}
	return l
}

func shapeOf(t *testing.T, pages int) shape.Shape {
	t.Helper()
	s, e := shape.New(pages)
	if e != api.OK {
		t.Fatal(pages, e)
	}
	return s
}

func storeOf(t *testing.T, blocks int) *dev.Store {
	t.Helper()
	st, e := dev.New(blocks)
	if e != api.OK {
		t.Fatal(blocks, e)
	}
	return st
}

// way are the nodes over a page, counted by hand: level by level the items' sixth parts.
func way(pages, item int) []int {
	var l []int
	first, many := 0, pages
	for level := 0; level == 0 || many > 1; level++ {
		item = first + many + (item-first)/6
		first, many = first+many, (many+5)/6
		l = append(l, item)
	}
	return l
}

// nodePage is the page of references, each part put where the document says.
func nodePage(refs ...seal.Ref) []byte {
	b := make([]byte, 256)
	b[0] = byte(len(refs))
	for i, r := range refs {
		at := 1 + 37*i
		b[at] = byte(r.Place)
		binary.LittleEndian.PutUint32(b[at+1:], r.Epoch)
		copy(b[at+5:], r.Digest[:])
	}
	return b
}

// picture is an image as it lies in a store, and what a test knows of it: its items' references and sealed blocks.
type picture struct {
	s      shape.Shape
	pages  [][]byte
	refs   []seal.Ref
	sealed [][]byte
}

func (p picture) root() seal.Ref { return p.refs[len(p.refs)-1] }

// block is where an item is.
func (p picture) block(item int) int { return 2 + 2*item + p.refs[item].Place }

// text is what an item's block hides.
func (p picture) text(item int) []byte {
	if item < len(p.pages) {
		return p.pages[item]
	}
	var kids []seal.Ref
	for _, kid := range p.s.Kids(item) {
		kids = append(kids, p.refs[kid])
	}
	return nodePage(kids...)
}

// hide hides an item, as it is, at a place, in an epoch.
func (p picture) hide(t *testing.T, item, place int, epoch uint32) tree.Put {
	t.Helper()
	block := 2 + 2*item + place
	sealed, e := seal.Seal(key(), epoch, block, p.text(item))
	if e != api.OK {
		t.Fatal(e)
	}
	p.refs[item] = seal.Ref{Place: place, Epoch: epoch, Digest: sha256.Sum256(sealed)}
	p.sealed[item] = sealed
	return tree.Put{Block: block, Bytes: sealed}
}

// stored is an image that lies in a store: where tells each item's place and epoch.
func stored(t *testing.T, pages [][]byte, where func(item int) (int, uint32)) (picture, *dev.Store) {
	t.Helper()
	s := shapeOf(t, len(pages))
	p := picture{s: s, pages: pages, refs: make([]seal.Ref, s.Items()), sealed: make([][]byte, s.Items())}
	st := storeOf(t, s.Blocks())
	for item := range s.Items() {
		place, epoch := where(item)
		put := p.hide(t, item, place, epoch)
		if e := st.Write(put.Block, put.Bytes); e != api.OK {
			t.Fatal(e)
		}
	}
	st.Flush()
	return p, st
}

// atFirst is where all items of an image that is made are.
func atFirst(epoch uint32) func(int) (int, uint32) {
	return func(int) (int, uint32) { return 0, epoch }
}

// scattered is where the items of an image are that turned many times.
func scattered(r *rand.Rand) func(int) (int, uint32) {
	return func(int) (int, uint32) { return r.Intn(2), r.Uint32() >> r.Intn(32) }
}

// wantMounted fails unless an image can be mounted, and all its blocks are noted, the last item's first.
func wantMounted(t *testing.T, b *seal.Book, st *dev.Store, p picture) *Image {
	t.Helper()
	had := b.Len()
	m, e := Mount(b, st, key(), p.s, p.root())
	if e != api.OK || m == nil {
		t.Fatalf("Mount of %d pages: %v", len(p.pages), e)
	}
	noted := slices.Clone(p.sealed)
	slices.Reverse(noted)
	if b != nil && !samePages(b.Texts()[had:], noted) {
		t.Fatalf("%d texts were noted, want %d, or others", b.Len()-had, len(noted))
	}
	return m
}

// wantNoMount fails unless Mount tells an error, and nothing else. The answer is how many texts were noted.
func wantNoMount(t *testing.T, st *dev.Store, k [32]byte, s shape.Shape, root seal.Ref, want api.Errno) int {
	t.Helper()
	var book seal.Book
	for _, b := range []*seal.Book{nil, &book} {
		if m, e := Mount(b, st, k, s, root); m != nil || e != want {
			t.Fatalf("Mount of %d pages: %v, %v, want %v", s.Pages(), m, e, want)
		}
	}
	return book.Len()
}

func samePages(a, b [][]byte) bool {
	return slices.EqualFunc(a, b, func(x, y []byte) bool { return bytes.Equal(x, y) })
}

func samePuts(a, b []tree.Put) bool {
	return slices.EqualFunc(a, b, func(x, y tree.Put) bool { return x.Block == y.Block && bytes.Equal(x.Bytes, y.Bytes) })
}

// model is what the document tells of a mounted image: what was committed, what is pending, and the plan, as the image that is to come of it.
type model struct {
	now     picture
	pending map[int][]byte
	next    *picture
}

func modelOf(p picture) *model { return &model{now: p, pending: map[int][]byte{}} }

// page is what a page is.
func (o *model) page(n int) []byte {
	if b, ok := o.pending[n]; ok {
		return b
	}
	return o.now.pages[n]
}

func (o *model) all() [][]byte {
	var l [][]byte
	for n := range o.now.pages {
		l = append(l, o.page(n))
	}
	return l
}

func (o *model) set(n int, b []byte) {
	o.next = nil
	delete(o.pending, n)
	if !bytes.Equal(b, o.now.pages[n]) {
		o.pending[n] = bytes.Clone(b)
	}
}

func (o *model) drop() { o.pending, o.next = map[int][]byte{}, nil }

func (o *model) dirty() []int { return slices.Sorted(maps.Keys(o.pending)) }

// plan is the plan by layer 16's words: item by item, rising, what is pending, and what is over it.
func (o *model) plan(t *testing.T, epoch uint32) ([]tree.Put, seal.Ref) {
	t.Helper()
	q := picture{s: o.now.s, pages: o.all(), refs: slices.Clone(o.now.refs), sealed: slices.Clone(o.now.sealed)}
	turned := o.dirty()
	for n := range o.pending {
		turned = append(turned, way(len(q.pages), n)...)
	}
	slices.Sort(turned)
	var puts []tree.Put
	for _, item := range slices.Compact(turned) {
		puts = append(puts, q.hide(t, item, 1-q.refs[item].Place, epoch))
	}
	o.next = &q
	return puts, q.root()
}

// done tells whether there was a plan.
func (o *model) done() bool {
	if o.next == nil {
		return false
	}
	o.now = *o.next
	o.drop()
	return true
}

// wantAs fails unless an image is as the model tells.
func wantAs(t *testing.T, m *Image, o *model) {
	t.Helper()
	if m.Pages() != len(o.now.pages) || m.Root() != o.now.root() || !slices.Equal(m.Dirty(), o.dirty()) {
		t.Fatalf("%d pages, the root %v, %v pending, want %d, %v, %v", m.Pages(), m.Root(), m.Dirty(), len(o.now.pages), o.now.root(), o.dirty())
	}
	for n := range o.now.pages {
		if b, e := m.Page(n); e != api.OK || !bytes.Equal(b, o.page(n)) {
			t.Fatalf("the page %d of %d: %x, %v, want %x", n, m.Pages(), b, e, o.page(n))
		}
	}
}

func wantSet(t *testing.T, m *Image, o *model, n int, b []byte) {
	t.Helper()
	if e := m.Set(n, b); e != api.OK {
		t.Fatalf("Set of the page %d: %v", n, e)
	}
	o.set(n, b)
}

// wantPlan fails unless the plan is the model's, and just its blocks are noted.
func wantPlan(t *testing.T, b *seal.Book, m *Image, o *model, epoch uint32) []tree.Put {
	t.Helper()
	had := b.Len()
	puts, root, e := m.Plan(epoch)
	want, next := o.plan(t, epoch)
	if e != api.OK || root != next || !samePuts(puts, want) {
		t.Fatalf("Plan of %v of %d pages: %d puts, %v, %v, want %d, %v", m.Dirty(), m.Pages(), len(puts), root, e, len(want), next)
	}
	var noted [][]byte
	for _, put := range want {
		noted = append(noted, put.Bytes)
	}
	if b != nil && !samePages(b.Texts()[had:], noted) {
		t.Fatalf("%d texts were noted, want %d, or others", b.Len()-had, len(noted))
	}
	return puts
}

// wantDone fails unless Done tells what the model does.
func wantDone(t *testing.T, m *Image, o *model) {
	t.Helper()
	want := api.ErrNone
	if o.done() {
		want = api.OK
	}
	if e := m.Done(); e != want {
		t.Fatalf("Done: %v, want %v", e, want)
	}
}

// drawn are some of so many pages, rising.
func drawn(r *rand.Rand, pages int) []int {
	var l []int
	part := r.Float64()
	for k := range pages {
		if r.Float64() < part*part {
			l = append(l, k)
		}
	}
	return l
}

// Example 1: Set of what is there: Dirty is empty.
func TestPublishedExample(t *testing.T) {
	p, st := stored(t, pagesOf(7), atFirst(1))
	m, o := wantMounted(t, nil, st, p), modelOf(p)
	for n := range 7 {
		if e := m.Set(n, page(n)); e != api.OK || len(m.Dirty()) != 0 {
			t.Fatal(n, e, m.Dirty())
		}
	}
	wantAs(t, m, o)
}

// P17.1: of each size, and wherever its items are, an image is mounted, with all pages, and nothing is pending.
func TestMount(t *testing.T) {
	r := rand.New(rand.NewSource(171))
	for pages := 1; pages <= 216; pages++ {
		where := atFirst(uint32(pages * 0x01010101))
		if pages%2 == 0 {
			where = scattered(r)
		}
		var book seal.Book
		p, st := stored(t, pagesOf(pages), where)
		wantAs(t, wantMounted(t, &book, st, p), modelOf(p))
		if wantMounted(t, nil, st, p).Done() != api.ErrNone {
			t.Fatal("there is a plan")
		}
	}
}

// P17.1: what waits in a store is mounted, and so is what lies in a store that has more blocks than are needed.
func TestMountOfWaiting(t *testing.T) {
	for _, pages := range sizes {
		p, _ := stored(t, pagesOf(pages), atFirst(9))
		st := storeOf(t, 1024)
		for item := range p.refs {
			if e := st.Write(p.block(item), p.sealed[item]); e != api.OK {
				t.Fatal(e)
			}
		}
		wantAs(t, wantMounted(t, nil, st, p), modelOf(p))
		st.Crash(0, 0, 0)
		wantNoMount(t, st, key(), p.s, p.root(), api.ErrCorrupt)
	}
}

// P17.1: what Whole tells, if that is an error: a shape without pages, a place that is none, a store that nobody made, or that is too small; the first one that is named counts.
func TestMountRefuses(t *testing.T) {
	p, st := stored(t, pagesOf(7), atFirst(1))
	for _, st := range []*dev.Store{st, nil, {}, storeOf(t, 20), storeOf(t, 1)} {
		for _, root := range []seal.Ref{p.root(), {}, {Place: 2}} {
			wantNoMount(t, st, key(), shape.Shape{}, root, api.ErrArg)
		}
		for _, place := range badPlaces {
			root := p.root()
			root.Place = place
			wantNoMount(t, st, key(), p.s, root, api.ErrArg)
		}
	}
	for _, st := range []*dev.Store{nil, {}} {
		wantNoMount(t, st, key(), p.s, p.root(), api.ErrNil)
		wantNoMount(t, st, key(), p.s, seal.Ref{}, api.ErrNil)
	}
	for blocks := 1; blocks <= 20; blocks++ {
		if wantNoMount(t, storeOf(t, blocks), key(), p.s, p.root(), api.ErrArg) != 0 {
			t.Fatal("something was noted")
		}
	}
	if wantNoMount(t, storeOf(t, 21), key(), p.s, p.root(), api.ErrCorrupt) != 1 {
		t.Fatal("the root was not looked at, or more than that")
	}
}

// P17.1: whichever block of an image is turned, it is corrupt, and what is behind it was not looked at; blocks that are not used play no part.
func TestMountOfTampered(t *testing.T) {
	r := rand.New(rand.NewSource(172))
	for _, pages := range []int{1, 6, 7, 43, 216} {
		p, st := stored(t, pagesOf(pages), scattered(r))
		for item := range p.refs {
			for place := range 2 {
				at := r.Intn(256)
				block := 2 + 2*item + place
				was, _ := st.Read(block)
				st.Tamper(block, at, []byte{was[at] ^ 1<<r.Intn(8)})
				if place != p.refs[item].Place {
					wantMounted(t, nil, st, p)
				} else if noted := wantNoMount(t, st, key(), p.s, p.root(), api.ErrCorrupt); noted != len(p.refs)-item {
					t.Fatalf("the item %d of %d: %d texts were noted", item, len(p.refs), noted)
				}
				st.Tamper(block, 0, was)
			}
		}
		wantAs(t, wantMounted(t, nil, st, p), modelOf(p))
	}
}

// P17.1: another root, an elder image, another key and another shape are corrupt.
func TestMountOfOthers(t *testing.T) {
	p, st := stored(t, pagesOf(43), atFirst(2))
	elder, _ := stored(t, pagesOf(43), atFirst(1))
	for _, root := range []seal.Ref{{}, {Place: 1}, p.refs[0], p.refs[52], elder.root()} {
		wantNoMount(t, st, key(), p.s, root, api.ErrCorrupt)
	}
	root := p.root()
	root.Epoch++
	wantNoMount(t, st, key(), p.s, root, api.ErrCorrupt)
	other := key()
	other[31] ^= 1
	wantNoMount(t, st, other, p.s, p.root(), api.ErrCorrupt)
	for _, pages := range []int{1, 7, 36, 42} {
		wantNoMount(t, st, key(), shapeOf(t, pages), p.root(), api.ErrCorrupt)
	}
	wantMounted(t, nil, st, p)
}

// P17.1: no page is ErrArg, and nothing turns; neither is a plan forgotten.
func TestNoPages(t *testing.T) {
	for _, pages := range []int{1, 7, 43, 216} {
		p, st := stored(t, pagesOf(pages), atFirst(1))
		m, o := wantMounted(t, nil, st, p), modelOf(p)
		for i, n := range append(slices.Clone(noPages), pages, pages+1, p.s.Root()) {
			wantSet(t, m, o, pages-1, page(300+i))
			wantPlan(t, nil, m, o, 5)
			if b, e := m.Page(n); len(b) != 0 || e != api.ErrArg {
				t.Fatalf("the page %d of %d: %x, %v", n, pages, b, e)
			}
			for _, b := range [][]byte{page(3), page(0), nil, page(3)[:255]} {
				if e := m.Set(n, b); e != api.ErrArg {
					t.Fatalf("Set of the page %d of %d: %v", n, pages, e)
				}
			}
			wantAs(t, m, o)
			wantDone(t, m, o)
		}
	}
}

// P17.1: a page has 256 bytes: others are ErrArg, and nothing turns; neither is a plan forgotten.
func TestSetOfBytes(t *testing.T) {
	p, st := stored(t, pagesOf(7), atFirst(1))
	m, o := wantMounted(t, nil, st, p), modelOf(p)
	wantSet(t, m, o, 2, page(99))
	wantPlan(t, nil, m, o, 5)
	for n := range 7 {
		for _, many := range badBytes {
			for _, k := range []int{n, 50} {
				if e := m.Set(n, append(page(k), page(2)...)[:many]); e != api.ErrArg {
					t.Fatalf("Set of %d bytes: %v", many, e)
				}
			}
		}
		if e := m.Set(n, nil); e != api.ErrArg {
			t.Fatal(e)
		}
	}
	wantAs(t, m, o)
	wantDone(t, m, o)
	wantAs(t, m, o)
}

// P17.1: what differs in one byte is pending; as soon as it is what was committed, nothing is.
func TestSet(t *testing.T) {
	p, st := stored(t, pagesOf(43), atFirst(1))
	m, o := wantMounted(t, nil, st, p), modelOf(p)
	for at := range 256 {
		n := at % 43
		b := page(n)
		b[at] ^= 1 << (at % 8)
		wantSet(t, m, o, n, b)
		if !slices.Equal(m.Dirty(), []int{n}) {
			t.Fatalf("the byte %d: %v", at, m.Dirty())
		}
		wantAs(t, m, o)
		b[at] ^= 1 << (at % 8)
		wantSet(t, m, o, n, b)
		if len(m.Dirty()) != 0 {
			t.Fatalf("the byte %d: %v", at, m.Dirty())
		}
		wantAs(t, m, o)
	}
}

// P17.1: Dirty rises, whichever was set first; a page that is set again is there once.
func TestDirty(t *testing.T) {
	r := rand.New(rand.NewSource(173))
	p, st := stored(t, pagesOf(216), atFirst(1))
	for range 30 {
		m, o := wantMounted(t, nil, st, p), modelOf(p)
		of := drawn(r, 216)
		of = append(of, of...)
		r.Shuffle(len(of), func(i, j int) { of[i], of[j] = of[j], of[i] })
		for _, n := range of {
			wantSet(t, m, o, n, page(n+1+r.Intn(200)))
			if !slices.Equal(m.Dirty(), o.dirty()) {
				t.Fatal(m.Dirty(), o.dirty())
			}
		}
		wantAs(t, m, o)
	}
}

// P17.1, P17.3: behind Drop all is as it was committed, and there is no plan.
func TestDrop(t *testing.T) {
	r := rand.New(rand.NewSource(174))
	for _, pages := range sizes {
		p, st := stored(t, pagesOf(pages), scattered(r))
		m, o := wantMounted(t, nil, st, p), modelOf(p)
		for round := range 4 {
			m.Drop()
			wantAs(t, m, o)
			for _, n := range upTo(pages) {
				wantSet(t, m, o, n, page(n+10+round))
			}
			wantPlan(t, nil, m, o, uint32(round))
			wantAs(t, m, o)
			m.Drop()
			o.drop()
			wantAs(t, m, o)
			wantDone(t, m, o)
			wantSet(t, m, o, pages-1, page(pages+20+round))
			wantPlan(t, nil, m, o, uint32(round))
			wantDone(t, m, o)
		}
	}
}

// P17.1: each Set forgets a plan: of what was pending, of what is there, and of what was committed; Page, Dirty, Root and Pages do not.
func TestPlansAreForgotten(t *testing.T) {
	p, st := stored(t, pagesOf(43), atFirst(1))
	m, o := wantMounted(t, nil, st, p), modelOf(p)
	for _, set := range []struct {
		n int
		b []byte
	}{{7, page(100)}, {7, page(101)}, {7, page(7)}, {8, page(8)}, {9, page(102)}} {
		wantSet(t, m, o, 7, page(100))
		wantPlan(t, nil, m, o, 2)
		wantSet(t, m, o, set.n, set.b)
		if o.next != nil || m.Done() != api.ErrNone {
			t.Fatalf("behind Set of the page %d there is a plan", set.n)
		}
		wantAs(t, m, o)
	}
	wantPlan(t, nil, m, o, 3)
	wantAs(t, m, o)
	wantDone(t, m, o)
	wantAs(t, m, o)
}

// P17.2: of nothing that is pending a plan writes nothing, and Done leaves the root as it is; a second Done has no plan.
func TestPlanOfNothing(t *testing.T) {
	for _, pages := range sizes {
		p, st := stored(t, pagesOf(pages), atFirst(1))
		var book seal.Book
		m, o := wantMounted(t, &book, st, p), modelOf(p)
		wantDone(t, m, o)
		for range 3 {
			puts, root, e := m.Plan(7)
			if len(puts) != 0 || root != p.root() || e != api.OK || book.Len() != p.s.Items() {
				t.Fatal(puts, root, e, book.Len())
			}
			if e := m.Done(); e != api.OK {
				t.Fatal(e)
			}
			if e := m.Done(); e != api.ErrNone {
				t.Fatal(e)
			}
			wantAs(t, m, o)
		}
	}
}

// P17.2: until Done all is pending, and the root as it was; the last plan counts.
func TestPlansUntilDone(t *testing.T) {
	p, st := stored(t, pagesOf(43), atFirst(1))
	var book seal.Book
	m, o := wantMounted(t, &book, st, p), modelOf(p)
	for _, n := range []int{42, 0, 7} {
		wantSet(t, m, o, n, page(n+100))
	}
	for _, epoch := range []uint32{0, math.MaxUint32, 1, 2, 2, 1 << 31, 258} {
		wantPlan(t, &book, m, o, epoch)
		wantAs(t, m, o)
		if m.Root() != p.root() || !slices.Equal(m.Dirty(), []int{0, 7, 42}) {
			t.Fatal(m.Root(), m.Dirty())
		}
	}
	wantDone(t, m, o)
	if m.Root().Epoch != 258 || m.Root().Place != 1 || len(m.Dirty()) != 0 {
		t.Fatal(m.Root(), m.Dirty())
	}
	wantAs(t, m, o)
	wantDone(t, m, o)
}

// P17.2: what was committed is what is set against from then on.
func TestSetBehindDone(t *testing.T) {
	p, st := stored(t, pagesOf(7), atFirst(1))
	m, o := wantMounted(t, nil, st, p), modelOf(p)
	wantSet(t, m, o, 3, page(100))
	wantPlan(t, nil, m, o, 2)
	wantDone(t, m, o)
	wantSet(t, m, o, 3, page(100))
	if len(m.Dirty()) != 0 {
		t.Fatal(m.Dirty())
	}
	wantSet(t, m, o, 3, page(3))
	if !slices.Equal(m.Dirty(), []int{3}) {
		t.Fatal(m.Dirty())
	}
	wantAs(t, m, o)
}

// P17.2: plans that another program made: of each round the digest of all puts, block (two bytes) by block, and the root's.
func TestPlansOfOthers(t *testing.T) {
	type round struct {
		epoch      uint32
		pages      []int
		puts       int
		laid, root string
	}
	for _, c := range []struct {
		pages  int
		epoch  uint32
		rounds []round
	}{
		{1, 1, []round{
			{2, []int{0}, 2, "5badface900db482030085f62e89625a3b85aaeb1c9da56604b7369f287a4312", "529dd664c41d1327255ab77e6901cdcddba323592b00730d8cd90e9a8d1bc216"},
			{3, []int{0}, 2, "7e276d24772dba77a65b16a8bf602dbe00f8801ef0bdd794aad40e54f077b2d3", "2fa7daeb0d6faf500cb969eeea0d85a388e09d4b760430271b3f7a6fdbd2d0e8"},
		}},
		{6, 9, []round{
			{0, []int{0, 5}, 3, "9edb1a556c1787b7e3633c2e02dbf6fafdcde9390f0087f5569a40504c39a742", "9ac334f2d731df4871ebf94c8bfe09df4f12b7ddf31e4e5ad62680da885d7fdb"},
		}},
		{7, 2, []round{
			{3, []int{6}, 3, "d05725e665a089476f2db4bbbb78ee0fc4a0d77b7759c8294ba569bcc2b7e4c3", "8e9233300e465c30b05dfccdaaae1d7e35394adca2bd2492913fa3cd340c8f41"},
			{4, []int{0, 6}, 5, "958a20e38872bbb06163565d24e42249bc08c4d0c5b45fea077e5af104de5a5a", "7c69ee3c84aca861249dd08ca133f33e69e31e182c97cdad2667edb512b063aa"},
		}},
		{37, 5, []round{
			{6, []int{36}, 4, "f5d08bd5b5595c2c326045fc0114d346ac2d0102af6ccd2442f6a66432b02882", "3f7b993d42d6bde20901630dd63a864d3395237464b791ecd8bd7b0f22a557d3"},
			{70000, []int{0, 35, 36}, 9, "0c4fdd40670c423a6778022e925d5287a381e5a1333eaafdfb54f3f84e8a03cf", "c4304fb71376ae0fb04bb1800da7f41c6820f74602093490b15573ed2a0f3db1"},
		}},
		{43, 1, []round{
			{math.MaxUint32, []int{2, 7, 41, 42}, 11, "d396e5bd3ad5eb74862e691c8bf92e106f213e74e9f027f72e40e0977407b807", "f376d1535950f52b8233252cf616d13b12cdf7b5f01ea59111a675f94c05ce32"},
			{258, []int{2, 8}, 6, "1b14d881136826fb8e10968d7bbd0fb4d97b7e65c8285826ed0c66bf76fa1635", "3271d33a2a1a8d5d4d4709cfdf95667dba98674e2c115c4ac7ce9a15bb417792"},
		}},
		{216, 7, []round{
			{8, upTo(216), 259, "06671bdbba8cc5de93a8c144f6fdaac8ae96d0e407a339768a4fe90ec72217cd", "524f2b5667956fa8ef8d65055d2b3450ef4156173623fde3014324b584b60e51"},
			{9, []int{0, 100, 215}, 10, "353c1d0c4c0d7129a864ed50f0da754f7d6ccfd482386592ff4a9acf3090d47c", "c09e4caffb1c9fd2006109d085e24bc8470898c0bcf0bb26f8530b163db3d388"},
		}},
	} {
		p, st := stored(t, pagesOf(c.pages), atFirst(c.epoch))
		m := wantMounted(t, nil, st, p)
		for i, x := range c.rounds {
			for _, n := range x.pages {
				m.Set(n, page(1000*(i+1)+n))
			}
			puts, root, e := m.Plan(x.epoch)
			if e != api.OK || len(puts) != x.puts || laidSum(puts) != x.laid {
				t.Fatalf("the round %d of %d pages: %v, %d puts", i, c.pages, e, len(puts))
			}
			if root.Place != (i+1)%2 || root.Epoch != x.epoch || hex.EncodeToString(root.Digest[:]) != x.root {
				t.Fatalf("the round %d of %d pages: the root %v", i, c.pages, root)
			}
			if e := m.Done(); e != api.OK || m.Root() != root {
				t.Fatal(e, m.Root())
			}
		}
	}
}

// laidSum is the digest of puts.
func laidSum(puts []tree.Put) string {
	var b []byte
	for _, p := range puts {
		b = append(binary.LittleEndian.AppendUint16(b, uint16(p.Block)), p.Bytes...)
	}
	sum := sha256.Sum256(b)
	return hex.EncodeToString(sum[:])
}

// P17.2: a plan hangs on the key and the epoch; other keys' images plan other blocks.
func TestPlanHangsOnAll(t *testing.T) {
	p, st := stored(t, pagesOf(1), atFirst(1))
	m, o := wantMounted(t, nil, st, p), modelOf(p)
	wantSet(t, m, o, 0, page(9))
	was := wantPlan(t, nil, m, o, 2)
	if samePuts(was, wantPlan(t, nil, m, o, 3)) {
		t.Fatal("the epoch plays no part")
	}
	other := key()
	other[0] ^= 128
	puts, root, _ := tree.Make(nil, other, 1, pagesOf(1))
	tree.Lay(st, puts)
	n, e := Mount(nil, st, other, p.s, root)
	if e != api.OK || n.Set(0, page(9)) != api.OK {
		t.Fatal(e)
	}
	if puts, _, e := n.Plan(2); e != api.OK || len(puts) != 2 || samePuts(was, puts) {
		t.Fatal("the key plays no part", e)
	}
}

// P17.3: what was set is there, as all else stays, whatever is called, in any order.
func TestAnyOrder(t *testing.T) {
	r := rand.New(rand.NewSource(175))
	for range 120 {
		pages := 1 + r.Intn(50)
		var book seal.Book
		p, st := stored(t, pagesOf(pages), scattered(r))
		m, o := wantMounted(t, &book, st, p), modelOf(p)
		for range 60 {
			n := r.Intn(pages)
			switch r.Intn(12) {
			case 0, 1, 2:
				wantSet(t, m, o, n, page(r.Intn(251)))
			case 3:
				wantSet(t, m, o, n, o.now.pages[n])
			case 4:
				wantSet(t, m, o, n, o.page(n))
			case 5:
				if m.Set(n, page(1)[:r.Intn(256)]) != api.ErrArg || m.Set(pages+r.Intn(9), page(1)) != api.ErrArg {
					t.Fatal("Set takes what is no page")
				}
			case 6, 7, 8:
				wantPlan(t, &book, m, o, r.Uint32()>>r.Intn(32))
			case 9, 10:
				wantDone(t, m, o)
			case 11:
				m.Drop()
				o.drop()
			}
			wantAs(t, m, o)
		}
	}
}

// P17.4: behind Done an image that is mounted anew at the new root has the same pages, if its plan was laid; the elder root's image is as it was till the next one. So it goes on, round by round.
func TestMountedAnew(t *testing.T) {
	r := rand.New(rand.NewSource(176))
	for _, pages := range sizes {
		p, st := stored(t, pagesOf(pages), atFirst(1))
		m, o := wantMounted(t, nil, st, p), modelOf(p)
		for round := range 8 {
			of := drawn(r, pages)
			if round == 0 {
				of = upTo(pages)
			}
			for _, n := range of {
				wantSet(t, m, o, n, page(1000+round*300+n))
			}
			elder := modelOf(o.now)
			puts := wantPlan(t, nil, m, o, uint32(2+round))
			if e := tree.Lay(st, puts); e != api.OK {
				t.Fatal(e)
			}
			wantAs(t, wantMounted(t, nil, st, elder.now), elder)
			wantDone(t, m, o)
			wantAs(t, m, o)
			var book seal.Book
			anew := wantMounted(t, &book, st, o.now)
			wantAs(t, anew, o)
			if round%2 == 1 {
				m = anew
			}
		}
	}
}

// P17.4: a plan that was not laid, or not wholly, is no image; the elder one is as it was.
func TestNotLaid(t *testing.T) {
	p, st := stored(t, pagesOf(43), atFirst(1))
	m, o := wantMounted(t, nil, st, p), modelOf(p)
	for _, n := range []int{0, 6, 42} {
		wantSet(t, m, o, n, page(100+n))
	}
	puts := wantPlan(t, nil, m, o, 2)
	wantDone(t, m, o)
	for many := range puts {
		if e := tree.Lay(st, puts[:many]); e != api.OK {
			t.Fatal(e)
		}
		wantNoMount(t, st, key(), p.s, m.Root(), api.ErrCorrupt)
		wantMounted(t, nil, st, p)
		st.Crash(0, 0, 0)
	}
	tree.Lay(st, puts)
	wantAs(t, wantMounted(t, nil, st, o.now), o)
}

// P17.1: all is held: whatever comes over the store behind Mount plays no part, and nothing is written to it.
func TestStorePlaysNoPart(t *testing.T) {
	p, st := stored(t, pagesOf(43), atFirst(1))
	was, trace := st.Bytes(), st.Trace()
	m, o := wantMounted(t, nil, st, p), modelOf(p)
	work := func() {
		t.Helper()
		for _, n := range []int{0, 17, 42} {
			wantSet(t, m, o, n, page(100+n+m.Root().Place))
		}
		wantPlan(t, nil, m, o, 2)
		wantDone(t, m, o)
		wantAs(t, m, o)
	}
	work()
	if !bytes.Equal(st.Bytes(), was) || !slices.Equal(st.Trace(), trace) {
		t.Fatal("the store was turned")
	}
	for block := range p.s.Blocks() {
		st.Tamper(block, 0, page(block))
	}
	work()
}

// P17.2: a nil image, and one that Mount did not give.
func TestUnmade(t *testing.T) {
	for _, m := range []*Image{nil, {}, new(Image)} {
		for range 2 {
			for _, n := range append(slices.Clone(noPages), 0, 1) {
				if b, e := m.Page(n); len(b) != 0 || e != api.ErrNil {
					t.Fatal(b, e)
				}
				for _, b := range [][]byte{nil, page(1), page(1)[:9]} {
					if e := m.Set(n, b); e != api.ErrNil {
						t.Fatal(e)
					}
				}
			}
			for _, epoch := range []uint32{0, 1, math.MaxUint32} {
				if puts, root, e := m.Plan(epoch); len(puts) != 0 || root != (seal.Ref{}) || e != api.ErrNil {
					t.Fatal(puts, root, e)
				}
			}
			if e := m.Done(); e != api.ErrNil {
				t.Fatal(e)
			}
			m.Drop()
			if len(m.Dirty()) != 0 || m.Root() != (seal.Ref{}) || m.Pages() != 0 {
				t.Fatal(m.Dirty(), m.Root(), m.Pages())
			}
		}
	}
}

// R3: images that are mounted alike answer alike; what one does plays no part in the other.
func TestTwoImages(t *testing.T) {
	p, st := stored(t, pagesOf(43), atFirst(1))
	m, o := wantMounted(t, nil, st, p), modelOf(p)
	n, q := wantMounted(t, nil, st, p), modelOf(p)
	for round := range 9 {
		wantSet(t, m, o, round, page(100+round))
		wantSet(t, n, q, 42-round, page(200+round))
		wantPlan(t, nil, m, o, uint32(round))
		wantPlan(t, nil, n, q, uint32(round))
		wantDone(t, m, o)
		wantAs(t, m, o)
		wantAs(t, n, q)
		n.Drop()
		q.drop()
	}
	for range 20 {
		again := modelOf(p)
		k := wantMounted(t, nil, st, p)
		for _, at := range []int{9, 30, 2, 31, 8} {
			wantSet(t, k, again, at, page(at+90))
		}
		wantPlan(t, nil, k, again, 77)
	}
}

// R4: no call writes into what it is handed, or keeps it.
func TestArgumentsStay(t *testing.T) {
	p, st := stored(t, pagesOf(7), atFirst(1))
	m, o := wantMounted(t, nil, st, p), modelOf(p)
	room := append(page(100), page(101)...)
	wantSet(t, m, o, 3, room[:256])
	same := page(4)
	wantSet(t, m, o, 4, same)
	if !bytes.Equal(room, append(page(100), page(101)...)) || !bytes.Equal(same, page(4)) {
		t.Fatal("Set wrote into its page")
	}
	clear(room)
	clear(same)
	wantAs(t, m, o)
	wantPlan(t, nil, m, o, 2)
	wantDone(t, m, o)
	wantAs(t, m, o)
}

// R4: what is answered is the caller's: to write into it, or behind it, turns nothing else.
func TestAnswersAreTheCallers(t *testing.T) {
	p, st := stored(t, pagesOf(43), atFirst(1))
	var book seal.Book
	m, o := wantMounted(t, &book, st, p), modelOf(p)
	spoil := func() {
		t.Helper()
		for n := range 43 {
			b, _ := m.Page(n)
			clear(append(b, b...))
			clear(b)
		}
		l := m.Dirty()
		clear(append(l, l...))
		clear(l)
		wantAs(t, m, o)
	}
	spoil()
	for round := range 4 {
		wantSet(t, m, o, 7, page(100+round))
		wantSet(t, m, o, 42, page(110+round))
		spoil()
		puts := wantPlan(t, &book, m, o, uint32(round))
		for i, put := range puts {
			clear(append(put.Bytes, page(1)...))
			clear(put.Bytes)
			puts[i].Block = 0
		}
		clear(append(puts, puts...))
		clear(puts)
		for _, text := range book.Texts() {
			clear(text)
		}
		wantDone(t, m, o)
		spoil()
	}
	if i, j, ok := seal.Clash(book.Texts()...); ok {
		t.Fatal("two texts with one digest", i, j)
	}
	wantPlan(t, &book, m, o, 9)
}
