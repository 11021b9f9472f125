package lazy

import (
	"bytes"
	"crypto/sha256"
	"encoding/binary"
	"encoding/hex"
	"maps"
	"math"
	"math/rand"
	"slices"
	"testing"

	"carling/api"
	"carling/dev"
	"carling/eager"
	"carling/seal"
	"carling/shape"
	"carling/tree"
)

// sizes are numbers of pages: the least, the most, and those about a level's end.
var sizes = []int{1, 2, 5, 6, 7, 12, 13, 35, 36, 37, 42, 43, 72, 73, 180, 181, 215, 216}

// badPlaces are no places of a block; the lowest bits of some are one's.
var badPlaces = []int{math.MinInt, math.MinInt + 1, -1 << 32, -256, -255, -2, -1, 2, 3, 255, 256, 257, 1 << 32, 1<<32 + 1, math.MaxInt - 1, math.MaxInt}

// noPages are no pages of any image; the lowest bits of some are one's.
var noPages = []int{math.MinInt, math.MinInt + 1, -1 << 32, -1<<32 + 1, -256, -7, -2, -1, 216, 217, 256, 257, 65536, 1 << 32, 1<<32 + 1, math.MaxInt - 1, math.MaxInt}

// badBytes are how many bytes no page has.
var badBytes = []int{0, 1, 64, 255, 257, 512}

func key() [32]byte {
	var k [32]byte
	for i := range k {
		k[i] = byte(i + 1)
	}
	return k
}

// page are 256 bytes that tell k and their places, none of them 0.
func page(k int) []byte {
	b := make([]byte, 256)
	for i := range b {
		b[i] = byte((i*7+k*31)%251 + 1)
	}
	return b
}

func pagesOf(many int) [][]byte {
	var l [][]byte
	for k := range many {
		l = append(l, page(k))
	}
	return l
}

// upTo are the numbers from 0 on, so many.
func upTo(many int) []int {
	var l []int
	for k := range many {
		l = append(l, k)
	}
	return l
}

func shapeOf(t *testing.T, pages int) shape.Shape {
	t.Helper()
	s, e := shape.New(pages)
	if e != api.OK {
		t.Fatal(pages, e)
	}
	return s
}

func storeOf(t *testing.T, blocks int) *dev.Store {
	t.Helper()
	st, e := dev.New(blocks)
	if e != api.OK {
		t.Fatal(blocks, e)
	}
	return st
}

// way are the nodes over a page, counted by hand: level by level the items' sixth parts.
func way(pages, item int) []int {
	var l []int
	first, many := 0, pages
	for level := 0; level == 0 || many > 1; level++ {
		item = first + many + (item-first)/6
		first, many = first+many, (many+5)/6
		l = append(l, item)
	}
	return l
}

// nodePage is the page of references, each part put where the document says.
func nodePage(refs ...seal.Ref) []byte {
	b := make([]byte, 256)
	b[0] = byte(len(refs))
	for i, r := range refs {
		at := 1 + 37*i
		b[at] = byte(r.Place)
		binary.LittleEndian.PutUint32(b[at+1:], r.Epoch)
		copy(b[at+5:], r.Digest[:])
	}
	return b
}

// picture is an image as it lies in a store, and what a test knows of it: its items' references and sealed blocks.
type picture struct {
	s      shape.Shape
	pages  [][]byte
	refs   []seal.Ref
	sealed [][]byte
}

func (p picture) root() seal.Ref { return p.refs[len(p.refs)-1] }

// block is where an item is.
func (p picture) block(item int) int { return 2 + 2*item + p.refs[item].Place }

// text is what an item's block hides.
func (p picture) text(item int) []byte {
	if item < len(p.pages) {
		return p.pages[item]
	}
	var kids []seal.Ref
	for _, kid := range p.s.Kids(item) {
		kids = append(kids, p.refs[kid])
	}
	return nodePage(kids...)
}

// hide hides an item, as it is, at a place, in an epoch.
func (p picture) hide(t *testing.T, item, place int, epoch uint32) tree.Put {
	t.Helper()
	block := 2 + 2*item + place
	sealed, e := seal.Seal(key(), epoch, block, p.text(item))
	if e != api.OK {
		t.Fatal(e)
	}
	p.refs[item] = seal.Ref{Place: place, Epoch: epoch, Digest: sha256.Sum256(sealed)}
	p.sealed[item] = sealed
	return tree.Put{Block: block, Bytes: sealed}
}

// stored is an image that lies in a store: where tells each item's place and epoch.
func stored(t *testing.T, pages [][]byte, where func(item int) (int, uint32)) (picture, *dev.Store) {
	t.Helper()
	s := shapeOf(t, len(pages))
	p := picture{s: s, pages: pages, refs: make([]seal.Ref, s.Items()), sealed: make([][]byte, s.Items())}
	st := storeOf(t, s.Blocks())
	for item := range s.Items() {
		place, epoch := where(item)
		put := p.hide(t, item, place, epoch)
		if e := st.Write(put.Block, put.Bytes); e != api.OK {
			t.Fatal(e)
		}
	}
	st.Flush()
	return p, st
}

// atFirst is where all items of an image that is made are.
func atFirst(epoch uint32) func(int) (int, uint32) {
	return func(int) (int, uint32) { return 0, epoch }
}

// scattered is where the items of an image are that turned many times.
func scattered(r *rand.Rand) func(int) (int, uint32) {
	return func(int) (int, uint32) { return r.Intn(2), r.Uint32() >> r.Intn(32) }
}

// wantMounted fails unless an image is mounted, of which nothing was looked at.
func wantMounted(t *testing.T, b *seal.Book, st *dev.Store, p picture, room, ahead int) *Image {
	t.Helper()
	had := b.Len()
	m, e := Mount(b, st, key(), p.s, p.root(), room, ahead)
	if e != api.OK || m == nil || m.Held() != 0 || b.Len() != had || m.Dead() {
		t.Fatalf("Mount of %d pages, with room for %d, %d ahead: %v, %v", len(p.pages), room, ahead, m, e)
	}
	return m
}

func samePages(a, b [][]byte) bool {
	return slices.EqualFunc(a, b, func(x, y []byte) bool { return bytes.Equal(x, y) })
}

func samePuts(a, b []tree.Put) bool {
	return slices.EqualFunc(a, b, func(x, y tree.Put) bool { return x.Block == y.Block && bytes.Equal(x.Bytes, y.Bytes) })
}

// model is what the document tells of a mounted image: what was committed, what is pending, and the plan, as the image that is to come of it; which items are held, the one that was used last at the end, and which texts were noted.
type model struct {
	now         picture
	pending     map[int][]byte
	next        *picture
	nodes       []int
	room, ahead int
	order       []int
	noted       [][]byte
}

func modelOf(p picture, room, ahead int) *model {
	return &model{now: p, pending: map[int][]byte{}, room: room, ahead: ahead}
}

// use tells that an item was used: if too many are not pending, the one of these goes that was used the longest ago.
func (o *model) use(item int) {
	o.forget(item)
	o.order = append(o.order, item)
	if len(o.order)-len(o.pending) > o.room {
		for _, old := range o.order {
			if _, ok := o.pending[old]; !ok {
				o.forget(old)
				return
			}
		}
	}
}

func (o *model) forget(item int) {
	if at := slices.Index(o.order, item); at >= 0 {
		o.order = slices.Delete(o.order, at, at+1)
	}
}

// look looks an item up.
func (o *model) look(item int) {
	if !slices.Contains(o.order, item) {
		o.fetch(item)
	}
	o.use(item)
}

// fetch fetches an item: its node is looked up, and it is noted.
func (o *model) fetch(item int) {
	if parent, _, ok := o.now.s.Parent(item); ok {
		o.look(parent)
	}
	o.noted = append(o.noted, o.now.sealed[item])
}

// ask tells that a page was told.
func (o *model) ask(n int) {
	if _, ok := o.pending[n]; ok {
		return
	}
	for k := n; k <= n+o.ahead && k < len(o.now.pages); k++ {
		o.look(k)
	}
}

// page is what a page is.
func (o *model) page(n int) []byte {
	if b, ok := o.pending[n]; ok {
		return b
	}
	return o.now.pages[n]
}

func (o *model) all() [][]byte {
	var l [][]byte
	for n := range o.now.pages {
		l = append(l, o.page(n))
	}
	return l
}

func (o *model) set(n int, b []byte) {
	o.next = nil
	if _, ok := o.pending[n]; ok {
		o.fetch(n)
	} else {
		o.look(n)
	}
	delete(o.pending, n)
	if !bytes.Equal(b, o.now.pages[n]) {
		o.pending[n] = bytes.Clone(b)
	}
	o.use(n)
}

func (o *model) drop() {
	for n := range o.pending {
		o.forget(n)
	}
	o.pending, o.next = map[int][]byte{}, nil
}

func (o *model) dirty() []int { return slices.Sorted(maps.Keys(o.pending)) }

// plan is the plan by layer 16's words: item by item, rising, what is pending, and what is over it; the nodes of it are looked up.
func (o *model) plan(t *testing.T, epoch uint32) ([]tree.Put, seal.Ref) {
	t.Helper()
	var nodes []int
	for n := range o.pending {
		nodes = append(nodes, way(len(o.now.pages), n)...)
	}
	slices.Sort(nodes)
	o.nodes = slices.Compact(nodes)
	for _, item := range o.nodes {
		o.look(item)
	}
	q := picture{s: o.now.s, pages: o.all(), refs: slices.Clone(o.now.refs), sealed: slices.Clone(o.now.sealed)}
	var puts []tree.Put
	for _, item := range append(o.dirty(), o.nodes...) {
		puts = append(puts, q.hide(t, item, 1-q.refs[item].Place, epoch))
		o.noted = append(o.noted, q.sealed[item])
	}
	o.next = &q
	return puts, q.root()
}

// done tells whether there was a plan: then its nodes are held, and its pages.
func (o *model) done() bool {
	if o.next == nil {
		return false
	}
	o.now, o.next = *o.next, nil
	for _, item := range o.nodes {
		o.use(item)
	}
	for _, n := range o.dirty() {
		delete(o.pending, n)
		o.use(n)
	}
	return true
}

// wantHeld fails unless as many are held, and as many texts noted, as the model tells.
func wantHeld(t *testing.T, b *seal.Book, m *Image, o *model) {
	t.Helper()
	if m.Held() != len(o.order) || m.Dead() {
		t.Fatalf("%d are held, want %v", m.Held(), o.order)
	}
	if m.Held()-len(m.Dirty()) > o.room {
		t.Fatalf("%d are held, %d of them pending, in room for %d", m.Held(), len(m.Dirty()), o.room)
	}
	if b != nil && !samePages(b.Texts(), o.noted) {
		t.Fatalf("%d texts were noted, want %d, or others", b.Len(), len(o.noted))
	}
}

// wantPage fails unless a page is what the model tells.
func wantPage(t *testing.T, m *Image, o *model, n int) {
	t.Helper()
	if b, e := m.Page(n); e != api.OK || !bytes.Equal(b, o.page(n)) {
		t.Fatalf("the page %d of %d: %x, %v, want %x", n, m.Pages(), b, e, o.page(n))
	}
	o.ask(n)
}

// wantAs fails unless an image is as the model tells.
func wantAs(t *testing.T, m *Image, o *model) {
	t.Helper()
	wantSum(t, m, o)
	for n := range o.now.pages {
		wantPage(t, m, o, n)
	}
	wantHeld(t, nil, m, o)
}

// wantSum fails unless what is told without looking at anything is what the model tells.
func wantSum(t *testing.T, m *Image, o *model) {
	t.Helper()
	if m.Pages() != len(o.now.pages) || m.Root() != o.now.root() || !slices.Equal(m.Dirty(), o.dirty()) {
		t.Fatalf("%d pages, the root %v, %v pending, want %d, %v, %v", m.Pages(), m.Root(), m.Dirty(), len(o.now.pages), o.now.root(), o.dirty())
	}
	wantHeld(t, nil, m, o)
}

func wantSet(t *testing.T, m *Image, o *model, n int, b []byte) {
	t.Helper()
	if e := m.Set(n, b); e != api.OK {
		t.Fatalf("Set of the page %d: %v", n, e)
	}
	o.set(n, b)
	wantHeld(t, nil, m, o)
}

// wantPlan fails unless the plan is the model's.
func wantPlan(t *testing.T, m *Image, o *model, epoch uint32) []tree.Put {
	t.Helper()
	puts, root, e := m.Plan(epoch)
	want, next := o.plan(t, epoch)
	if e != api.OK || root != next || !samePuts(puts, want) {
		t.Fatalf("Plan of %v of %d pages: %d puts, %v, %v, want %d, %v", m.Dirty(), m.Pages(), len(puts), root, e, len(want), next)
	}
	wantHeld(t, nil, m, o)
	return puts
}

// wantDone fails unless Done tells what the model does.
func wantDone(t *testing.T, m *Image, o *model) {
	t.Helper()
	want := api.ErrNone
	if o.done() {
		want = api.OK
	}
	if e := m.Done(); e != want {
		t.Fatalf("Done: %v, want %v", e, want)
	}
	wantHeld(t, nil, m, o)
}

// wantCommitted fails unless what is pending is planned, laid and committed.
func wantCommitted(t *testing.T, m *Image, o *model, st *dev.Store, epoch uint32) {
	t.Helper()
	if e := tree.Lay(st, wantPlan(t, m, o, epoch)); e != api.OK {
		t.Fatal(e)
	}
	wantDone(t, m, o)
}

// wantDead fails unless all calls tell that an image is corrupt, and nothing else.
func wantDead(t *testing.T, m *Image) {
	t.Helper()
	for range 2 {
		for _, n := range append(slices.Clone(noPages), 0, 1, 215) {
			if b, e := m.Page(n); len(b) != 0 || e != api.ErrCorrupt {
				t.Fatalf("the page %d of a dead image: %x, %v", n, b, e)
			}
			for _, b := range [][]byte{nil, page(n & 255), page(1)[:9]} {
				if e := m.Set(n, b); e != api.ErrCorrupt {
					t.Fatalf("Set of the page %d of a dead image: %v", n, e)
				}
			}
		}
		if puts, root, e := m.Plan(3); len(puts) != 0 || root != (seal.Ref{}) || e != api.ErrCorrupt {
			t.Fatal(puts, root, e)
		}
		if e := m.Done(); e != api.ErrCorrupt {
			t.Fatal(e)
		}
		if !m.Dead() || len(m.Dirty()) != 0 || m.Root() != (seal.Ref{}) || m.Pages() != 0 || m.Held() != 0 {
			t.Fatal(m.Dead(), m.Dirty(), m.Root(), m.Pages(), m.Held())
		}
		m.Drop()
	}
}

// turn turns a byte of the block that an item uses. The answer turns it back.
func turn(st *dev.Store, p picture, item, at int) func() {
	was, _ := st.Read(p.block(item))
	st.Tamper(p.block(item), at, []byte{was[at] ^ 1<<(at%8)})
	return func() { st.Tamper(p.block(item), at, was[at:at+1]) }
}

// drawn are some of so many pages, rising.
func drawn(r *rand.Rand, pages int) []int {
	var l []int
	part := r.Float64()
	for k := range pages {
		if r.Float64() < part*part {
			l = append(l, k)
		}
	}
	return l
}

// laidSum is the digest of puts.
func laidSum(puts []tree.Put) string {
	var b []byte
	for _, p := range puts {
		b = append(binary.LittleEndian.AppendUint16(b, uint16(p.Block)), p.Bytes...)
	}
	sum := sha256.Sum256(b)
	return hex.EncodeToString(sum[:])
}

// Example 1: behind Mount nothing is held.
func TestPublishedExample(t *testing.T) {
	p, st := stored(t, pagesOf(7), atFirst(1))
	if m, e := Mount(nil, st, key(), p.s, p.root(), 4, 16); e != api.OK || m.Held() != 0 {
		t.Fatal(e, m.Held())
	}
}

// P18.1: of each size, and wherever its items are, an image is mounted, of which nothing was looked at; all its pages are there, and nothing is pending.
func TestMount(t *testing.T) {
	r := rand.New(rand.NewSource(181))
	for pages := 1; pages <= 216; pages++ {
		where := atFirst(uint32(pages * 0x01010101))
		if pages%2 == 0 {
			where = scattered(r)
		}
		var book seal.Book
		p, st := stored(t, pagesOf(pages), where)
		room, ahead := 4+r.Intn(300), r.Intn(17)
		m, o := wantMounted(t, &book, st, p, room, ahead), modelOf(p, room, ahead)
		wantDone(t, m, o)
		wantAs(t, m, o)
		wantHeld(t, &book, m, o)
	}
}

// P18.1: rooms are 4 to 1024, and pages ahead 0 to 16; a shape has pages.
func TestMountRefuses(t *testing.T) {
	p, st := stored(t, pagesOf(7), atFirst(1))
	refused := func(s shape.Shape, room, ahead int) {
		t.Helper()
		for _, st := range []*dev.Store{st, nil, {}} {
			var book seal.Book
			if m, e := Mount(&book, st, key(), s, p.root(), room, ahead); m != nil || e != api.ErrArg || book.Len() != 0 {
				t.Fatalf("%d pages, room for %d, %d ahead: %v, %v", s.Pages(), room, ahead, m, e)
			}
		}
	}
	for _, room := range []int{math.MinInt, -1 << 32, 4 - 1<<32, -4, -1, 0, 1, 2, 3, 1025, 1028, 1 << 16, 1<<32 + 4, math.MaxInt} {
		for _, ahead := range []int{0, 16, 17} {
			refused(p.s, room, ahead)
		}
	}
	for _, ahead := range []int{math.MinInt, -1 << 32, -256, -16, -1, 17, 256, 1 << 16, 1 << 32, 1<<32 + 1, math.MaxInt} {
		for _, room := range []int{3, 4, 1024} {
			refused(p.s, room, ahead)
		}
	}
	refused(shape.Shape{}, 4, 0)
	refused(shape.Shape{}, 1024, 16)
	for _, room := range []int{4, 5, 1023, 1024} {
		for ahead := range 17 {
			wantAs(t, wantMounted(t, nil, st, p, room, ahead), modelOf(p, room, ahead))
		}
	}
}

// P18.1: Mount looks at nothing: what cannot be fetched is told as it is asked for, as layer 14 tells it; of what is not corrupt an image is not dead.
func TestMountLooksAtNothing(t *testing.T) {
	p, st := stored(t, pagesOf(7), atFirst(1))
	asked := func(st *dev.Store, root seal.Ref, want api.Errno, notes int) {
		t.Helper()
		var book seal.Book
		for _, ask := range []func(m *Image) api.Errno{
			func(m *Image) api.Errno { _, e := m.Page(6); return e },
			func(m *Image) api.Errno { return m.Set(2, page(1)) },
			func(m *Image) api.Errno { return m.Set(2, page(2)) },
		} {
			had := book.Len()
			m, e := Mount(&book, st, key(), p.s, root, 4, 3)
			if e != api.OK || m.Pages() != 7 || m.Root() != root || book.Len() != had {
				t.Fatal(e)
			}
			if e := ask(m); e != want || book.Len() != had+notes {
				t.Fatalf("%v, want %v; %d texts were noted, want %d", e, want, book.Len()-had, notes)
			}
			if want == api.ErrCorrupt {
				wantDead(t, m)
			} else if m.Dead() || m.Held() != 0 || m.Pages() != 7 || m.Root() != root || len(m.Dirty()) != 0 || ask(m) != want {
				t.Fatal("something turned")
			}
		}
	}
	asked(nil, p.root(), api.ErrNil, 0)
	asked(&dev.Store{}, p.root(), api.ErrNil, 0)
	for _, place := range badPlaces {
		root := p.root()
		root.Place = place
		asked(st, root, api.ErrArg, 0)
		asked(nil, root, api.ErrArg, 0)
	}
	for blocks := 1; blocks <= 20; blocks++ {
		asked(storeOf(t, blocks), p.root(), api.ErrArg, 0)
	}
	asked(storeOf(t, 21), p.root(), api.ErrCorrupt, 1)
	asked(st, seal.Ref{}, api.ErrCorrupt, 1)
	asked(st, p.refs[0], api.ErrCorrupt, 1)
}

// P18.1: another root, an elder image, another key and another shape are corrupt.
func TestMountOfOthers(t *testing.T) {
	p, st := stored(t, pagesOf(43), atFirst(2))
	elder, _ := stored(t, pagesOf(43), atFirst(1))
	corrupt := func(k [32]byte, s shape.Shape, root seal.Ref) {
		t.Helper()
		m, e := Mount(nil, st, k, s, root, 4, 0)
		if e != api.OK {
			t.Fatal(e)
		}
		if b, e := m.Page(0); len(b) != 0 || e != api.ErrCorrupt {
			t.Fatal(b, e)
		}
		wantDead(t, m)
	}
	for _, root := range []seal.Ref{{}, {Place: 1}, p.refs[0], p.refs[52], elder.root()} {
		corrupt(key(), p.s, root)
	}
	root := p.root()
	root.Epoch++
	corrupt(key(), p.s, root)
	other := key()
	other[31] ^= 1
	corrupt(other, p.s, p.root())
	for _, pages := range []int{1, 7, 36, 42} {
		corrupt(key(), shapeOf(t, pages), p.root())
	}
}

// P18.1: of a page that is asked for just what is on its way is looked at, the root first, and held; once more nothing is looked at.
func TestPageLooksAtItsWay(t *testing.T) {
	r := rand.New(rand.NewSource(182))
	for _, pages := range sizes {
		p, st := stored(t, pagesOf(pages), scattered(r))
		for _, n := range []int{0, pages / 2, pages - 1} {
			var book seal.Book
			m, o := wantMounted(t, &book, st, p, 4, 0), modelOf(p, 4, 0)
			var noted [][]byte
			for _, item := range append([]int{n}, way(pages, n)...) {
				noted = append([][]byte{p.sealed[item]}, noted...)
			}
			for range 3 {
				wantPage(t, m, o, n)
				if m.Held() != len(noted) || !samePages(book.Texts(), noted) {
					t.Fatalf("the page %d of %d: %d are held, %d texts were noted", n, pages, m.Held(), book.Len())
				}
			}
		}
	}
}

// P18.1: behind a page that is told the next ones are looked up, as many as Ahead says, as far as there are some.
func TestAhead(t *testing.T) {
	p, st := stored(t, pagesOf(43), atFirst(1))
	for ahead := range 17 {
		for n := range 43 {
			var book seal.Book
			m, o := wantMounted(t, &book, st, p, 1024, ahead), modelOf(p, 1024, ahead)
			wantPage(t, m, o, n)
			wantHeld(t, &book, m, o)
			held := map[int]int{}
			for k := n; k <= min(n+ahead, 42); k++ {
				held[k] = 1
				for _, item := range way(43, k) {
					held[item] = 1
				}
			}
			if m.Held() != len(held) || book.Len() != len(held) {
				t.Fatalf("%d ahead of the page %d: %d are held, %d noted, want %d", ahead, n, m.Held(), book.Len(), len(held))
			}
			for block := range p.s.Blocks() {
				st.Tamper(block, 0, make([]byte, 256))
			}
			for k := n; k <= min(n+ahead, 42); k++ {
				if b, e := m.Page(k); e != api.OK || !bytes.Equal(b, page(k)) {
					t.Fatalf("the page %d was not looked up: %v", k, e)
				}
			}
			for item := range p.refs {
				st.Tamper(p.block(item), 0, p.sealed[item])
			}
		}
	}
}

// P18.1: what is pending is told without a look, and nothing is looked up ahead of it; Set looks nothing up ahead.
func TestNothingAheadOfPending(t *testing.T) {
	p, st := stored(t, pagesOf(43), atFirst(1))
	var book seal.Book
	m, o := wantMounted(t, &book, st, p, 64, 16), modelOf(p, 64, 16)
	wantSet(t, m, o, 7, page(99))
	wantHeld(t, &book, m, o)
	if m.Held() != 4 || book.Len() != 4 {
		t.Fatal(m.Held(), book.Len())
	}
	wantPage(t, m, o, 7)
	if m.Held() != 4 || book.Len() != 4 {
		t.Fatal(m.Held(), book.Len())
	}
	wantSet(t, m, o, 7, page(7))
	wantPage(t, m, o, 7)
	wantHeld(t, &book, m, o)
}

// P18.1: what may not be looked up ahead is no error, and nobody is dead of it; as soon as it is asked for it is corrupt.
func TestAheadIsNoError(t *testing.T) {
	r := rand.New(rand.NewSource(183))
	for _, bad := range []int{7, 8, 12, 23, 42, 44, 45, 52} {
		p, st := stored(t, pagesOf(43), scattered(r))
		turn(st, p, bad, r.Intn(256))
		m := wantMounted(t, nil, st, p, 1024, 16)
		under := p.s.Under(bad)
		if bad == p.s.Root() || slices.Contains(under, 0) {
			under = nil
		}
		if len(under) == 0 {
			continue
		}
		if b, e := m.Page(0); e != api.OK || !bytes.Equal(b, page(0)) || m.Dead() {
			t.Fatalf("the item %d: %v", bad, e)
		}
		if n := under[0] - 1; n >= 0 {
			if b, e := m.Page(n); e != api.OK || !bytes.Equal(b, page(n)) || m.Dead() {
				t.Fatalf("the item %d: the page %d: %v", bad, n, e)
			}
		}
		if b, e := m.Page(under[0]); len(b) != 0 || e != api.ErrCorrupt {
			t.Fatalf("the item %d: %v", bad, e)
		}
		wantDead(t, m)
	}
}

// P18.1: whichever item is turned, the pages under it are corrupt, whether they are told or set, and no others; blocks that are not used play no part.
func TestTampered(t *testing.T) {
	r := rand.New(rand.NewSource(184))
	for _, pages := range []int{1, 6, 7, 43} {
		p, st := stored(t, pagesOf(pages), scattered(r))
		for item := range p.refs {
			st.Tamper(2+2*item+1-p.refs[item].Place, 0, page(item))
			back := turn(st, p, item, r.Intn(256))
			for n := range pages {
				room, ahead := 4+r.Intn(9), r.Intn(17)
				for _, ask := range []func(m *Image) api.Errno{
					func(m *Image) api.Errno { _, e := m.Page(n); return e },
					func(m *Image) api.Errno { return m.Set(n, page(n)) },
					func(m *Image) api.Errno { return m.Set(n, page(n+1)) },
				} {
					m, want := wantMounted(t, nil, st, p, room, ahead), api.OK
					if slices.Contains(p.s.Under(item), n) {
						want = api.ErrCorrupt
					}
					if e := ask(m); e != want || m.Dead() != (want != api.OK) {
						t.Fatalf("the item %d, the page %d of %d: %v, want %v", item, n, pages, e, want)
					}
					if want != api.OK {
						wantDead(t, m)
					}
				}
			}
			back()
		}
		wantAs(t, wantMounted(t, nil, st, p, 4, 0), modelOf(p, 4, 0))
	}
}

// P18.1: a node that is no node's page, with as many children as it has, is corrupt for what is under it, though its digest is right.
func TestNodesThatAreNone(t *testing.T) {
	for _, bad := range []func(b []byte){
		func(b []byte) { b[0]-- },
		func(b []byte) { b[0] = 0 },
		func(b []byte) { b[0] = 7 },
		func(b []byte) { b[255] = 1 },
		func(b []byte) { b[1] = 2 },
		func(b []byte) { clear(b) },
	} {
		s := shapeOf(t, 2)
		st := storeOf(t, s.Blocks())
		q := picture{s: s, pages: pagesOf(2), refs: make([]seal.Ref, 3), sealed: make([][]byte, 3)}
		for item := range 2 {
			tree.Lay(st, []tree.Put{q.hide(t, item, 0, 1)})
		}
		text := q.text(2)
		bad(text)
		sealed, r, e := seal.Hide(nil, key(), 1, 0, s.Block(2, 0), text)
		if e != api.OK {
			t.Fatal(e)
		}
		st.Write(s.Block(2, 0), sealed)
		for _, ask := range []func(m *Image) api.Errno{
			func(m *Image) api.Errno { _, e := m.Page(1); return e },
			func(m *Image) api.Errno { return m.Set(1, page(8)) },
		} {
			m, _ := Mount(nil, st, key(), s, r, 4, 1)
			if e := ask(m); e != api.ErrCorrupt {
				t.Fatal(e)
			}
			wantDead(t, m)
		}
	}
}

// P18.1: what is held is not looked at again, whatever comes over the store; behind what goes for others it is.
func TestHeldIsNotLookedAt(t *testing.T) {
	p, st := stored(t, pagesOf(43), atFirst(1))
	m := wantMounted(t, nil, st, p, 4, 0)
	if _, e := m.Page(0); e != api.OK || m.Held() != 4 {
		t.Fatal(e, m.Held())
	}
	back := turn(st, p, 0, 9)
	if b, e := m.Page(0); e != api.OK || !bytes.Equal(b, page(0)) {
		t.Fatal(e)
	}
	for n := 1; n <= 4; n++ {
		if _, e := m.Page(n); e != api.OK {
			t.Fatal(n, e)
		}
	}
	back()
	if b, e := m.Page(0); e != api.OK || !bytes.Equal(b, page(0)) {
		t.Fatal(e)
	}
	for n := 42; n >= 38; n-- {
		m.Page(n)
	}
	turn(st, p, 0, 9)
	if _, e := m.Page(0); e != api.ErrCorrupt {
		t.Fatal(e)
	}
	wantDead(t, m)
}

// P18.1: what is set is set against what was committed, which is looked up, if the page is pending by then, too: if that is corrupt, the image is.
func TestSetLooksUp(t *testing.T) {
	for _, b := range [][]byte{page(3), page(99), page(98)} {
		p, st := stored(t, pagesOf(43), atFirst(1))
		var book seal.Book
		m, o := wantMounted(t, &book, st, p, 8, 0), modelOf(p, 8, 0)
		wantSet(t, m, o, 3, page(99))
		wantSet(t, m, o, 3, page(97))
		wantSet(t, m, o, 3, page(99))
		wantHeld(t, &book, m, o)
		if book.Len() != 6 || m.Held() != 4 {
			t.Fatal(book.Len(), m.Held())
		}
		turn(st, p, 3, 0)
		wantPage(t, m, o, 3)
		if e := m.Set(3, b[:255]); e != api.ErrArg || m.Dead() {
			t.Fatal(e)
		}
		if e := m.Set(3, b); e != api.ErrCorrupt {
			t.Fatal(e)
		}
		wantDead(t, m)
	}
}

// P18.1: no page is ErrArg, and nothing turns; neither is a plan forgotten, nor anything looked at.
func TestNoPages(t *testing.T) {
	for _, pages := range []int{1, 7, 43, 216} {
		p, st := stored(t, pagesOf(pages), atFirst(1))
		var book seal.Book
		m, o := wantMounted(t, &book, st, p, 4, 4), modelOf(p, 4, 4)
		for i, n := range append(slices.Clone(noPages), pages, pages+1, p.s.Root()) {
			wantSet(t, m, o, pages-1, page(300+i))
			puts := wantPlan(t, m, o, 5)
			if b, e := m.Page(n); len(b) != 0 || e != api.ErrArg {
				t.Fatalf("the page %d of %d: %x, %v", n, pages, b, e)
			}
			for _, b := range [][]byte{page(3), page(0), nil, page(3)[:255]} {
				if e := m.Set(n, b); e != api.ErrArg {
					t.Fatalf("Set of the page %d of %d: %v", n, pages, e)
				}
			}
			wantHeld(t, &book, m, o)
			tree.Lay(st, puts)
			wantDone(t, m, o)
		}
		wantAs(t, m, o)
	}
}

// P18.1: a page has 256 bytes: others are ErrArg, and nothing turns; neither is a plan forgotten, nor anything looked at.
func TestSetOfBytes(t *testing.T) {
	p, st := stored(t, pagesOf(7), atFirst(1))
	var book seal.Book
	m, o := wantMounted(t, &book, st, p, 5, 0), modelOf(p, 5, 0)
	wantSet(t, m, o, 2, page(99))
	puts := wantPlan(t, m, o, 5)
	for n := range 7 {
		for _, many := range badBytes {
			for _, k := range []int{n, 50} {
				if e := m.Set(n, append(page(k), page(2)...)[:many]); e != api.ErrArg {
					t.Fatalf("Set of %d bytes: %v", many, e)
				}
			}
		}
		if e := m.Set(n, nil); e != api.ErrArg {
			t.Fatal(e)
		}
	}
	wantHeld(t, &book, m, o)
	tree.Lay(st, puts)
	wantDone(t, m, o)
	wantAs(t, m, o)
}

// P18.1: what differs in one byte is pending; as soon as it is what was committed, nothing is.
func TestSet(t *testing.T) {
	p, st := stored(t, pagesOf(43), atFirst(1))
	m, o := wantMounted(t, nil, st, p, 6, 2), modelOf(p, 6, 2)
	for at := range 256 {
		n := at % 43
		b := page(n)
		b[at] ^= 1 << (at % 8)
		wantSet(t, m, o, n, b)
		if !slices.Equal(m.Dirty(), []int{n}) {
			t.Fatalf("the byte %d: %v", at, m.Dirty())
		}
		wantAs(t, m, o)
		b[at] ^= 1 << (at % 8)
		wantSet(t, m, o, n, b)
		if len(m.Dirty()) != 0 {
			t.Fatalf("the byte %d: %v", at, m.Dirty())
		}
		wantPage(t, m, o, n)
	}
}

// P18.1: Dirty rises, whichever was set first; a page that is set again is there once; more can be pending than there is room.
func TestDirty(t *testing.T) {
	r := rand.New(rand.NewSource(185))
	p, st := stored(t, pagesOf(216), atFirst(1))
	for range 20 {
		m, o := wantMounted(t, nil, st, p, 4, 0), modelOf(p, 4, 0)
		of := drawn(r, 216)
		of = append(of, of...)
		r.Shuffle(len(of), func(i, j int) { of[i], of[j] = of[j], of[i] })
		for _, n := range of {
			wantSet(t, m, o, n, page(n+1+r.Intn(200)))
			wantSum(t, m, o)
		}
		wantAs(t, m, o)
	}
}

// P18.1: behind Drop all is as it was committed, and there is no plan; what was pending is not held any more.
func TestDrop(t *testing.T) {
	r := rand.New(rand.NewSource(186))
	for _, pages := range sizes {
		p, st := stored(t, pagesOf(pages), scattered(r))
		m, o := wantMounted(t, nil, st, p, 4, 1), modelOf(p, 4, 1)
		for round := range 3 {
			m.Drop()
			wantSum(t, m, o)
			for _, n := range upTo(pages) {
				wantSet(t, m, o, n, page(n+10+round))
			}
			wantPlan(t, m, o, uint32(round))
			wantAs(t, m, o)
			had := m.Held()
			m.Drop()
			o.drop()
			wantSum(t, m, o)
			if m.Held() != had-pages {
				t.Fatal(m.Held(), had)
			}
			wantAs(t, m, o)
			wantDone(t, m, o)
			wantSet(t, m, o, pages-1, page(pages+20+round))
			wantCommitted(t, m, o, st, uint32(round))
		}
		wantAs(t, m, o)
	}
}

// P18.1: each Set forgets a plan: of what was pending, of what is there, and of what was committed; Page, Dirty, Root, Pages, Held and Dead do not.
func TestPlansAreForgotten(t *testing.T) {
	p, st := stored(t, pagesOf(43), atFirst(1))
	m, o := wantMounted(t, nil, st, p, 4, 3), modelOf(p, 4, 3)
	for _, set := range []struct {
		n int
		b []byte
	}{{7, page(100)}, {7, page(101)}, {7, page(7)}, {8, page(8)}, {9, page(102)}} {
		wantSet(t, m, o, 7, page(100))
		wantPlan(t, m, o, 2)
		wantSet(t, m, o, set.n, set.b)
		if o.next != nil || m.Done() != api.ErrNone {
			t.Fatalf("behind Set of the page %d there is a plan", set.n)
		}
		wantAs(t, m, o)
	}
	tree.Lay(st, wantPlan(t, m, o, 3))
	wantAs(t, m, o)
	wantDone(t, m, o)
	wantAs(t, m, o)
}

// P18.2: of nothing that is pending a plan writes nothing, and looks at nothing, and Done leaves the root as it is; a second Done has no plan.
func TestPlanOfNothing(t *testing.T) {
	for _, pages := range sizes {
		p, st := stored(t, pagesOf(pages), atFirst(1))
		var book seal.Book
		m, o := wantMounted(t, &book, st, p, 4, 0), modelOf(p, 4, 0)
		wantDone(t, m, o)
		for range 3 {
			puts, root, e := m.Plan(7)
			if len(puts) != 0 || root != p.root() || e != api.OK || book.Len() != 0 || m.Held() != 0 {
				t.Fatal(puts, root, e, book.Len())
			}
			if e := m.Done(); e != api.OK {
				t.Fatal(e)
			}
			if e := m.Done(); e != api.ErrNone {
				t.Fatal(e)
			}
			wantSum(t, m, o)
		}
	}
}

// P18.2: until Done all is pending, and the root as it was; the last plan counts.
func TestPlansUntilDone(t *testing.T) {
	p, st := stored(t, pagesOf(43), atFirst(1))
	var book seal.Book
	m, o := wantMounted(t, &book, st, p, 4, 0), modelOf(p, 4, 0)
	for _, n := range []int{42, 0, 7} {
		wantSet(t, m, o, n, page(n+100))
	}
	for _, epoch := range []uint32{0, math.MaxUint32, 1, 2, 2, 1 << 31, 258} {
		tree.Lay(st, wantPlan(t, m, o, epoch))
		wantHeld(t, &book, m, o)
		wantAs(t, m, o)
		if m.Root() != p.root() || !slices.Equal(m.Dirty(), []int{0, 7, 42}) {
			t.Fatal(m.Root(), m.Dirty())
		}
	}
	wantDone(t, m, o)
	if m.Root().Epoch != 258 || m.Root().Place != 1 || len(m.Dirty()) != 0 {
		t.Fatal(m.Root(), m.Dirty())
	}
	wantAs(t, m, o)
	wantDone(t, m, o)
}

// P18.2: a plan looks up the nodes that it needs, and those alone: if one of these is corrupt, the image is, and nothing is hidden.
func TestPlanLooksUp(t *testing.T) {
	for bad := range 54 {
		p, st := stored(t, pagesOf(43), atFirst(1))
		var book seal.Book
		m, o := wantMounted(t, &book, st, p, 4, 0), modelOf(p, 4, 0)
		for _, n := range []int{0, 6} {
			wantSet(t, m, o, n, page(n+100))
		}
		// These take the room of the nodes.
		for n := 36; n < 42; n++ {
			wantPage(t, m, o, n)
		}
		turn(st, p, bad, 3)
		if !slices.Contains([]int{43, 44, 51, 53}, bad) {
			wantPlan(t, m, o, 2)
			wantHeld(t, &book, m, o)
			continue
		}
		had := book.Len()
		if puts, root, e := m.Plan(2); len(puts) != 0 || root != (seal.Ref{}) || e != api.ErrCorrupt {
			t.Fatalf("the item %d: %v, %v", bad, root, e)
		}
		looked := append(slices.Clone(p.sealed), nil)
		looked[54], _ = st.Read(p.block(bad))
		for _, text := range book.Texts()[had:] {
			if !slices.ContainsFunc(looked, func(b []byte) bool { return bytes.Equal(b, text) }) {
				t.Fatal("something was hidden")
			}
		}
		wantDead(t, m)
	}
}

// P18.2: the nodes and pages that are new are held: they are told without a look.
func TestNewIsHeld(t *testing.T) {
	for _, laid := range []int{0, 1} {
		p, st := stored(t, pagesOf(43), atFirst(1))
		var book seal.Book
		m, o := wantMounted(t, &book, st, p, 1024, 0), modelOf(p, 1024, 0)
		for _, n := range []int{3, 40} {
			wantSet(t, m, o, n, page(n+100))
		}
		puts := wantPlan(t, m, o, 2)
		if laid == 1 {
			tree.Lay(st, puts)
		}
		wantDone(t, m, o)
		had := book.Len()
		for _, n := range []int{3, 40} {
			wantPage(t, m, o, n)
		}
		// The nodes over these are new: nothing but these pages is looked at.
		for _, n := range []int{0, 36} {
			wantPage(t, m, o, n)
		}
		if book.Len() != had+2 || m.Held() != 9 {
			t.Fatal(book.Len()-had, m.Held())
		}
		wantHeld(t, &book, m, o)
	}
}

// P18.2: what was committed is what is set against from then on.
func TestSetBehindDone(t *testing.T) {
	p, st := stored(t, pagesOf(7), atFirst(1))
	m, o := wantMounted(t, nil, st, p, 4, 0), modelOf(p, 4, 0)
	wantSet(t, m, o, 3, page(100))
	wantCommitted(t, m, o, st, 2)
	for range 2 {
		wantSet(t, m, o, 3, page(100))
		if len(m.Dirty()) != 0 {
			t.Fatal(m.Dirty())
		}
		wantSet(t, m, o, 3, page(3))
		if !slices.Equal(m.Dirty(), []int{3}) {
			t.Fatal(m.Dirty())
		}
		wantAs(t, m, o)
	}
}

// P18.2: a plan hangs on the key and the epoch.
func TestPlanHangsOnAll(t *testing.T) {
	p, st := stored(t, pagesOf(1), atFirst(1))
	m, o := wantMounted(t, nil, st, p, 4, 0), modelOf(p, 4, 0)
	wantSet(t, m, o, 0, page(9))
	was := wantPlan(t, m, o, 2)
	if samePuts(was, wantPlan(t, m, o, 3)) {
		t.Fatal("the epoch plays no part")
	}
	other := key()
	other[0] ^= 128
	puts, root, _ := tree.Make(nil, other, 1, pagesOf(1))
	tree.Lay(st, puts)
	n, e := Mount(nil, st, other, p.s, root, 4, 0)
	if e != api.OK || n.Set(0, page(9)) != api.OK {
		t.Fatal(e)
	}
	if puts, _, e := n.Plan(2); e != api.OK || len(puts) != 2 || samePuts(was, puts) {
		t.Fatal("the key plays no part", e)
	}
}

// P18.1 to P18.3, P18.5: whatever is called, in any order: all is as the document tells, and as many are held, and as much was looked at.
func TestAnyOrder(t *testing.T) {
	r := rand.New(rand.NewSource(187))
	for range 150 {
		pages := 1 + r.Intn(60)
		var book seal.Book
		p, st := stored(t, pagesOf(pages), scattered(r))
		room, ahead := 4+r.Intn(1+r.Intn(90)), r.Intn(17)
		m, o := wantMounted(t, &book, st, p, room, ahead), modelOf(p, room, ahead)
		for range 120 {
			n := r.Intn(pages)
			switch r.Intn(14) {
			case 0, 1, 2:
				wantSet(t, m, o, n, page(r.Intn(251)))
			case 3:
				wantSet(t, m, o, n, o.now.pages[n])
			case 4:
				wantSet(t, m, o, n, o.page(n))
			case 5:
				if m.Set(n, page(1)[:r.Intn(256)]) != api.ErrArg || m.Set(pages+r.Intn(9), page(1)) != api.ErrArg {
					t.Fatal("Set takes what is no page")
				}
			case 6, 7:
				wantPlan(t, m, o, r.Uint32()>>r.Intn(32))
			case 8, 9:
				wantCommitted(t, m, o, st, r.Uint32()>>r.Intn(32))
			case 10:
				if r.Intn(3) == 0 {
					m.Drop()
					o.drop()
				}
			case 11, 12, 13:
				wantPage(t, m, o, n)
			}
			wantSum(t, m, o)
		}
		wantHeld(t, &book, m, o)
		wantAs(t, m, o)
	}
}

// P18.4: on an image that layer 17 mounts, all calls tell what that one's tell.
func TestSameAsEager(t *testing.T) {
	r := rand.New(rand.NewSource(188))
	for range 100 {
		pages := 1 + r.Intn(80)
		p, st := stored(t, pagesOf(pages), scattered(r))
		m := wantMounted(t, nil, st, p, 4+r.Intn(1+r.Intn(90)), r.Intn(17))
		w, e := eager.Mount(nil, st, key(), p.s, p.root())
		if e != api.OK {
			t.Fatal(e)
		}
		for range 120 {
			n := r.Intn(pages+2) - 1
			b := page(r.Intn(5) + n)[:256-r.Intn(20)/19]
			switch r.Intn(10) {
			case 0, 1, 2, 3:
				if x, y := m.Set(n, b), w.Set(n, b); x != y {
					t.Fatal("Set", n, x, y)
				}
			case 4:
				puts, root, x := m.Plan(uint32(n))
				other, next, y := w.Plan(uint32(n))
				if x != y || root != next || !samePuts(puts, other) {
					t.Fatal("Plan", x, y, root, next)
				}
				tree.Lay(st, puts)
			case 5:
				if x, y := m.Done(), w.Done(); x != y {
					t.Fatal("Done", x, y)
				}
			case 6:
				if r.Intn(3) == 0 {
					m.Drop()
					w.Drop()
				}
			default:
				c, x := m.Page(n)
				if d, y := w.Page(n); x != y || !bytes.Equal(c, d) {
					t.Fatal("Page", n, x, y)
				}
			}
			if !slices.Equal(m.Dirty(), w.Dirty()) || m.Root() != w.Root() || m.Pages() != w.Pages() || m.Dead() {
				t.Fatal(m.Dirty(), w.Dirty(), m.Root(), w.Root(), m.Pages(), w.Pages())
			}
		}
	}
}

// P18.2: behind Done an image that is mounted anew at the new root has the same pages, if its plan was laid; so it goes on, round by round.
func TestMountedAnew(t *testing.T) {
	r := rand.New(rand.NewSource(189))
	for _, pages := range sizes {
		p, st := stored(t, pagesOf(pages), atFirst(1))
		m, o := wantMounted(t, nil, st, p, 4, 1), modelOf(p, 4, 1)
		for round := range 6 {
			of := drawn(r, pages)
			if round == 0 {
				of = upTo(pages)
			}
			for _, n := range of {
				wantSet(t, m, o, n, page(1000+round*300+n))
			}
			elder := o.now
			tree.Lay(st, wantPlan(t, m, o, uint32(2+round)))
			wantAs(t, wantMounted(t, nil, st, elder, 5, 0), modelOf(elder, 5, 0))
			wantDone(t, m, o)
			wantAs(t, m, o)
			anew, q := wantMounted(t, nil, st, o.now, 9, 2), modelOf(o.now, 9, 2)
			wantAs(t, anew, q)
			if round%2 == 1 {
				m, o = anew, q
			}
		}
	}
}

// P18.6: whatever is tampered with, and whenever: what is told is what was committed, or set; or it is corrupt, and from then on all is.
func TestTamperedAnyTime(t *testing.T) {
	r := rand.New(rand.NewSource(190))
	dead := 0
	for range 150 {
		pages := 1 + r.Intn(60)
		p, st := stored(t, pagesOf(pages), scattered(r))
		room, ahead := 4+r.Intn(40), r.Intn(17)
		m, o := wantMounted(t, nil, st, p, room, ahead), modelOf(p, room, ahead)
		for range 60 {
			if r.Intn(6) == 0 {
				block := 2 + r.Intn(2*len(p.refs))
				was, _ := st.Read(block)
				st.Tamper(block, r.Intn(250), [][]byte{page(r.Intn(9))[:6], was[:5], {0}}[r.Intn(3)])
			}
			n, e := r.Intn(pages), api.OK
			switch r.Intn(5) {
			case 0, 1:
				b := page(r.Intn(90))
				if e = m.Set(n, b); e == api.OK {
					o.set(n, b)
				}
			case 2:
				var puts []tree.Put
				if puts, _, e = m.Plan(uint32(n)); e == api.OK {
					want, _ := o.plan(t, uint32(n))
					if !samePuts(puts, want) {
						t.Fatal("another plan")
					}
					tree.Lay(st, puts)
					wantDone := o.done()
					if e = m.Done(); e != api.OK || !wantDone {
						t.Fatal(e)
					}
				}
			default:
				var b []byte
				if b, e = m.Page(n); e == api.OK && !bytes.Equal(b, o.page(n)) {
					t.Fatal("another page", n)
				}
			}
			if e == api.ErrCorrupt {
				wantDead(t, m)
				dead++
				break
			}
			if e != api.OK || m.Dead() || m.Root() != o.now.root() || !slices.Equal(m.Dirty(), o.dirty()) {
				t.Fatal(e, m.Dead(), m.Root(), m.Dirty())
			}
		}
	}
	if dead < 20 || dead > 149 {
		t.Fatal("too few are dead, or all", dead)
	}
}

// P18.1: nothing is written to the store.
func TestNothingIsWritten(t *testing.T) {
	p, st := stored(t, pagesOf(43), atFirst(1))
	was, trace := st.Bytes(), st.Trace()
	m, o := wantMounted(t, nil, st, p, 4, 2), modelOf(p, 4, 2)
	for _, n := range []int{0, 17, 42} {
		wantSet(t, m, o, n, page(100+n))
	}
	wantPlan(t, m, o, 2)
	wantAs(t, m, o)
	m.Drop()
	o.drop()
	wantAs(t, m, o)
	wantPlan(t, m, o, 2)
	wantDone(t, m, o)
	wantAs(t, m, o)
	if !bytes.Equal(st.Bytes(), was) || !slices.Equal(st.Trace(), trace) {
		t.Fatal("the store was turned")
	}
}

// P18.3: a nil image, and one that Mount did not give.
func TestUnmade(t *testing.T) {
	for _, m := range []*Image{nil, {}, new(Image)} {
		for range 2 {
			for _, n := range append(slices.Clone(noPages), 0, 1) {
				if b, e := m.Page(n); len(b) != 0 || e != api.ErrNil {
					t.Fatal(b, e)
				}
				for _, b := range [][]byte{nil, page(1), page(1)[:9]} {
					if e := m.Set(n, b); e != api.ErrNil {
						t.Fatal(e)
					}
				}
			}
			for _, epoch := range []uint32{0, 1, math.MaxUint32} {
				if puts, root, e := m.Plan(epoch); len(puts) != 0 || root != (seal.Ref{}) || e != api.ErrNil {
					t.Fatal(puts, root, e)
				}
			}
			if e := m.Done(); e != api.ErrNil {
				t.Fatal(e)
			}
			m.Drop()
			if len(m.Dirty()) != 0 || m.Root() != (seal.Ref{}) || m.Pages() != 0 || m.Held() != 0 || m.Dead() {
				t.Fatal(m.Dirty(), m.Root(), m.Pages(), m.Held(), m.Dead())
			}
		}
	}
}

// R3: images that are mounted alike answer alike; what one does plays no part in the other.
func TestTwoImages(t *testing.T) {
	p, st := stored(t, pagesOf(43), atFirst(1))
	m, o := wantMounted(t, nil, st, p, 7, 1), modelOf(p, 7, 1)
	n, q := wantMounted(t, nil, st, p, 4, 16), modelOf(p, 4, 16)
	for round := range 9 {
		wantSet(t, m, o, round, page(100+round))
		wantSet(t, n, q, 42-round, page(200+round))
		wantPlan(t, m, o, uint32(round))
		wantPlan(t, n, q, uint32(round))
		wantAs(t, m, o)
		wantAs(t, n, q)
		n.Drop()
		q.drop()
	}
	for range 20 {
		again := modelOf(p, 5, 2)
		k := wantMounted(t, nil, st, p, 5, 2)
		for _, at := range []int{9, 30, 2, 31, 8} {
			wantSet(t, k, again, at, page(at+90))
		}
		wantPlan(t, k, again, 77)
	}
	back := turn(st, p, 20, 0)
	if _, e := n.Page(20); e != api.ErrCorrupt {
		t.Fatal(e)
	}
	wantDead(t, n)
	back()
	wantAs(t, m, o)
}

// R4: no call writes into what it is handed, or keeps it.
func TestArgumentsStay(t *testing.T) {
	p, st := stored(t, pagesOf(7), atFirst(1))
	m, o := wantMounted(t, nil, st, p, 32, 0), modelOf(p, 32, 0)
	room := append(page(100), page(101)...)
	wantSet(t, m, o, 3, room[:256])
	same := page(4)
	wantSet(t, m, o, 4, same)
	again := page(5)
	wantSet(t, m, o, 5, page(9))
	wantSet(t, m, o, 5, again)
	if !bytes.Equal(room, append(page(100), page(101)...)) || !bytes.Equal(same, page(4)) || !bytes.Equal(again, page(5)) {
		t.Fatal("Set wrote into its page")
	}
	clear(room)
	clear(same)
	clear(again)
	wantAs(t, m, o)
	wantCommitted(t, m, o, st, 2)
	wantAs(t, m, o)
}

// R4: what is answered is the caller's: to write into it, or behind it, turns nothing else.
func TestAnswersAreTheCallers(t *testing.T) {
	p, st := stored(t, pagesOf(43), atFirst(1))
	var book seal.Book
	m, o := wantMounted(t, &book, st, p, 80, 3), modelOf(p, 80, 3)
	spoil := func() {
		t.Helper()
		for n := range 43 {
			b, _ := m.Page(n)
			o.ask(n)
			clear(append(b, b...))
			clear(b)
		}
		l := m.Dirty()
		clear(append(l, l...))
		clear(l)
		wantAs(t, m, o)
	}
	spoil()
	for round := range 4 {
		wantSet(t, m, o, 7, page(100+round))
		wantSet(t, m, o, 42, page(110+round))
		spoil()
		puts := wantPlan(t, m, o, uint32(round))
		tree.Lay(st, puts)
		for i, put := range puts {
			clear(append(put.Bytes, page(1)...))
			clear(put.Bytes)
			puts[i].Block = 0
		}
		clear(append(puts, puts...))
		clear(puts)
		for _, text := range book.Texts() {
			clear(text)
		}
		wantDone(t, m, o)
		spoil()
	}
	if i, j, ok := seal.Clash(book.Texts()...); ok {
		t.Fatal("two texts with one digest", i, j)
	}
	wantPlan(t, m, o, 9)
	wantHeld(t, &book, m, o)
}

// P18.2: plans that another program made: of each round the digest of all puts, block (two bytes) by block, and the root's.
func TestPlansOfOthers(t *testing.T) {
	type round struct {
		epoch      uint32
		pages      []int
		puts       int
		laid, root string
	}
	for _, c := range []struct {
		pages  int
		epoch  uint32
		rounds []round
	}{
		{1, 1, []round{
			{2, []int{0}, 2, "5badface900db482030085f62e89625a3b85aaeb1c9da56604b7369f287a4312", "529dd664c41d1327255ab77e6901cdcddba323592b00730d8cd90e9a8d1bc216"},
			{3, []int{0}, 2, "7e276d24772dba77a65b16a8bf602dbe00f8801ef0bdd794aad40e54f077b2d3", "2fa7daeb0d6faf500cb969eeea0d85a388e09d4b760430271b3f7a6fdbd2d0e8"},
		}},
		{6, 9, []round{
			{0, []int{0, 5}, 3, "9edb1a556c1787b7e3633c2e02dbf6fafdcde9390f0087f5569a40504c39a742", "9ac334f2d731df4871ebf94c8bfe09df4f12b7ddf31e4e5ad62680da885d7fdb"},
		}},
		{7, 2, []round{
			{3, []int{6}, 3, "d05725e665a089476f2db4bbbb78ee0fc4a0d77b7759c8294ba569bcc2b7e4c3", "8e9233300e465c30b05dfccdaaae1d7e35394adca2bd2492913fa3cd340c8f41"},
			{4, []int{0, 6}, 5, "958a20e38872bbb06163565d24e42249bc08c4d0c5b45fea077e5af104de5a5a", "7c69ee3c84aca861249dd08ca133f33e69e31e182c97cdad2667edb512b063aa"},
		}},
		{37, 5, []round{
			{6, []int{36}, 4, "f5d08bd5b5595c2c326045fc0114d346ac2d0102af6ccd2442f6a66432b02882", "3f7b993d42d6bde20901630dd63a864d3395237464b791ecd8bd7b0f22a557d3"},
			{70000, []int{0, 35, 36}, 9, "0c4fdd40670c423a6778022e925d5287a381e5a1333eaafdfb54f3f84e8a03cf", "c4304fb71376ae0fb04bb1800da7f41c6820f74602093490b15573ed2a0f3db1"},
		}},
		{43, 1, []round{
			{math.MaxUint32, []int{2, 7, 41, 42}, 11, "d396e5bd3ad5eb74862e691c8bf92e106f213e74e9f027f72e40e0977407b807", "f376d1535950f52b8233252cf616d13b12cdf7b5f01ea59111a675f94c05ce32"},
			{258, []int{2, 8}, 6, "1b14d881136826fb8e10968d7bbd0fb4d97b7e65c8285826ed0c66bf76fa1635", "3271d33a2a1a8d5d4d4709cfdf95667dba98674e2c115c4ac7ce9a15bb417792"},
		}},
		{216, 7, []round{
			{8, upTo(216), 259, "06671bdbba8cc5de93a8c144f6fdaac8ae96d0e407a339768a4fe90ec72217cd", "524f2b5667956fa8ef8d65055d2b3450ef4156173623fde3014324b584b60e51"},
			{9, []int{0, 100, 215}, 10, "353c1d0c4c0d7129a864ed50f0da754f7d6ccfd482386592ff4a9acf3090d47c", "c09e4caffb1c9fd2006109d085e24bc8470898c0bcf0bb26f8530b163db3d388"},
		}},
	} {
		p, st := stored(t, pagesOf(c.pages), atFirst(c.epoch))
		m := wantMounted(t, nil, st, p, 4, 0)
		for i, x := range c.rounds {
			for _, n := range x.pages {
				m.Set(n, page(1000*(i+1)+n))
			}
			puts, root, e := m.Plan(x.epoch)
			if e != api.OK || len(puts) != x.puts || laidSum(puts) != x.laid {
				t.Fatalf("the round %d of %d pages: %v, %d puts", i, c.pages, e, len(puts))
			}
			if root.Place != (i+1)%2 || root.Epoch != x.epoch || hex.EncodeToString(root.Digest[:]) != x.root {
				t.Fatalf("the round %d of %d pages: the root %v", i, c.pages, root)
			}
			tree.Lay(st, puts)
			if e := m.Done(); e != api.OK || m.Root() != root {
				t.Fatal(e, m.Root())
			}
		}
	}
}
