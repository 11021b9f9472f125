package commit

import (
	"bytes"
	"crypto/sha256"
	"encoding/binary"
	"encoding/hex"
	"math"
	"math/rand"
	"slices"
	"testing"

	"carling/api"
	"carling/dev"
	"carling/seal"
	"carling/shape"
	"carling/tree"
)

// sizes are numbers of pages: the least, the most, and those about a level's end.
var sizes = []int{1, 2, 5, 6, 7, 12, 13, 35, 36, 37, 42, 43, 72, 73, 180, 181, 215, 216}

// badPlaces are no places of a block; the lowest bits of some are one's.
var badPlaces = []int{math.MinInt, math.MinInt + 1, -1 << 32, -256, -255, -2, -1, 2, 3, 255, 256, 257, 1 << 32, 1<<32 + 1, math.MaxInt - 1, math.MaxInt}

// noPages are no pages of any image; the lowest bits of some are one's.
var noPages = []int{math.MinInt, math.MinInt + 1, -1 << 32, -1<<32 + 1, -256, -7, -2, -1, 216, 217, 256, 257, 65536, 1 << 32, 1<<32 + 1, math.MaxInt - 1, math.MaxInt}

func key() [32]byte {
	var k [32]byte
	for i := range k {
		k[i] = byte(i + 1)
	}
	return k
}

// page are 256 bytes that tell k and their places, none of them 0.
func page(k int) []byte {
	b := make([]byte, 256)
	for i := range b {
		b[i] = byte((i*7+k*31)%251 + 1)
	}
	return b
}

func pagesOf(many int) [][]byte {
	var l [][]byte
	for k := range many {
		l = append(l, page(k))
	}
	return l
}

// upTo are the numbers from 0 on, so many.
func upTo(many int) []int {
	var l []int
	for k := range many {
		l = append(l, k)
	}
	return l
}

func shapeOf(t *testing.T, pages int) shape.Shape {
	t.Helper()
	s, e := shape.New(pages)
	if e != api.OK {
		t.Fatal(pages, e)
	}
	return s
}

// way are the nodes over a page, counted by hand: level by level the items' sixth parts.
func way(pages, item int) []int {
	var l []int
	first, many := 0, pages
	for level := 0; level == 0 || many > 1; level++ {
		item = first + many + (item-first)/6
		first, many = first+many, (many+5)/6
		l = append(l, item)
	}
	return l
}

// need are the nodes over pages, by hand.
func need(pages int, of ...int) []int {
	var l []int
	for _, k := range of {
		l = append(l, way(pages, k)...)
	}
	slices.Sort(l)
	return slices.Compact(l)
}

// nodePage is the page of references, each part put where the document says.
func nodePage(refs ...seal.Ref) []byte {
	b := make([]byte, 256)
	b[0] = byte(len(refs))
	for i, r := range refs {
		at := 1 + 37*i
		b[at] = byte(r.Place)
		binary.LittleEndian.PutUint32(b[at+1:], r.Epoch)
		copy(b[at+5:], r.Digest[:])
	}
	return b
}

// picture is an image: what a test knows of its pages and its items' references.
type picture struct {
	s     shape.Shape
	pages [][]byte
	refs  []seal.Ref
}

func (p picture) root() seal.Ref { return p.refs[len(p.refs)-1] }

// node is a node as it is.
func (p picture) node(item int) Node {
	n := Node{Item: item}
	for _, kid := range p.s.Kids(item) {
		n.Refs = append(n.Refs, p.refs[kid])
	}
	return n
}

// nodes are some nodes, as they are.
func (p picture) nodes(items ...int) []Node {
	var l []Node
	for _, item := range items {
		l = append(l, p.node(item))
	}
	return l
}

// all are all nodes, rising.
func (p picture) all() []Node {
	var l []Node
	for item := len(p.pages); item < len(p.refs); item++ {
		l = append(l, p.node(item))
	}
	return l
}

// strewn is an image as it never was written: its items are in either place, and of all epochs.
func strewn(t *testing.T, pages int, r *rand.Rand) picture {
	t.Helper()
	p := picture{s: shapeOf(t, pages), pages: pagesOf(pages)}
	for range p.s.Items() {
		x := seal.Ref{Place: r.Intn(2), Epoch: r.Uint32() >> r.Intn(32)}
		r.Read(x.Digest[:])
		p.refs = append(p.refs, x)
	}
	return p
}

// stored is an image that was made, and laid in a store.
func stored(t *testing.T, pages int, epoch uint32) (picture, *dev.Store) {
	t.Helper()
	s := shapeOf(t, pages)
	st, e := dev.New(s.Blocks())
	if e != api.OK {
		t.Fatal(e)
	}
	puts, root, e := tree.Make(nil, key(), epoch, pagesOf(pages))
	if e != api.OK || tree.Lay(st, puts) != api.OK {
		t.Fatal(pages, e)
	}
	return wantWhole(t, st, s, root, pagesOf(pages)), st
}

// wantWhole fails unless a store has the image of these pages at a root.
func wantWhole(t *testing.T, st *dev.Store, s shape.Shape, root seal.Ref, want [][]byte) picture {
	t.Helper()
	refs, pages, e := tree.Whole(nil, st, key(), s, root)
	if e != api.OK || !samePages(pages, want) {
		t.Fatalf("Whole of %d pages: %v, or other pages", s.Pages(), e)
	}
	return picture{s: s, pages: pages, refs: refs}
}

func samePages(a, b [][]byte) bool {
	return slices.EqualFunc(a, b, func(x, y []byte) bool { return bytes.Equal(x, y) })
}

// plan is what Plan answers.
type plan struct {
	puts  []tree.Put
	nodes []Node
	root  seal.Ref
}

func (p plan) same(o plan) bool {
	return p.root == o.root &&
		slices.EqualFunc(p.puts, o.puts, func(x, y tree.Put) bool { return x.Block == y.Block && bytes.Equal(x.Bytes, y.Bytes) }) &&
		slices.EqualFunc(p.nodes, o.nodes, func(x, y Node) bool { return x.Item == y.Item && slices.Equal(x.Refs, y.Refs) })
}

// expected is the plan by the document's words: item by item, rising, what changes, and what is over it.
func expected(t *testing.T, p picture, k [32]byte, epoch uint32, changes []Change) (plan, picture) {
	t.Helper()
	turned := map[int][]byte{}
	for _, c := range changes {
		turned[c.Page] = c.Bytes
		for _, item := range way(len(p.pages), c.Page) {
			turned[item] = nil
		}
	}
	q := picture{s: p.s, pages: slices.Clone(p.pages), refs: slices.Clone(p.refs)}
	var want plan
	for item := range p.refs {
		text, ok := turned[item]
		if !ok {
			continue
		}
		if item < len(p.pages) {
			q.pages[item] = text
		} else {
			n := q.node(item)
			want.nodes = append(want.nodes, n)
			text = nodePage(n.Refs...)
		}
		place := 1 - p.refs[item].Place
		block := 2 + 2*item + place
		sealed, e := seal.Seal(k, epoch, block, text)
		if e != api.OK {
			t.Fatal(e)
		}
		want.puts = append(want.puts, tree.Put{Block: block, Bytes: sealed})
		q.refs[item] = seal.Ref{Place: place, Epoch: epoch, Digest: sha256.Sum256(sealed)}
	}
	want.root = q.root()
	return want, q
}

// wantPlanOf fails unless Plan answers what it is to, of these nodes, and notes just the blocks that are to be written.
func wantPlanOf(t *testing.T, p picture, epoch uint32, nodes []Node, changes []Change) (plan, picture) {
	t.Helper()
	if !May(p.s, nodes, changes) {
		t.Fatalf("May of %d pages, %d nodes, %d changes: false", len(p.pages), len(nodes), len(changes))
	}
	want, q := expected(t, p, key(), epoch, changes)
	var noted [][]byte
	for _, put := range want.puts {
		noted = append(noted, put.Bytes)
	}
	var book seal.Book
	for _, b := range []*seal.Book{&book, nil} {
		var got plan
		var e api.Errno
		got.puts, got.nodes, got.root, e = Plan(b, key(), epoch, p.s, p.root(), nodes, changes)
		if e != api.OK || !got.same(want) {
			t.Fatalf("Plan of %d pages, %d changes: %v, %v, want %v", len(p.pages), len(changes), got, e, want)
		}
	}
	if !samePages(book.Texts(), noted) {
		t.Fatalf("%d texts were noted, want %d, or others", book.Len(), len(noted))
	}
	return want, q
}

// wantPlan is wantPlanOf, of just the nodes that are needed.
func wantPlan(t *testing.T, p picture, epoch uint32, changes []Change) (plan, picture) {
	t.Helper()
	var of []int
	for _, c := range changes {
		of = append(of, c.Page)
	}
	return wantPlanOf(t, p, epoch, p.nodes(need(len(p.pages), of...)...), changes)
}

// wantNoPlan fails unless Plan refuses, answers nothing else, and notes nothing.
func wantNoPlan(t *testing.T, s shape.Shape, root seal.Ref, nodes []Node, changes []Change) {
	t.Helper()
	var book seal.Book
	for _, b := range []*seal.Book{&book, nil} {
		puts, turned, r, e := Plan(b, key(), 1, s, root, nodes, changes)
		if len(puts) != 0 || len(turned) != 0 || r != (seal.Ref{}) || e != api.ErrArg || book.Len() != 0 {
			t.Fatalf("Plan: %v, %v, %v, %v, %d texts, want ErrArg", puts, turned, r, e, book.Len())
		}
	}
}

// wantNot fails unless changes may not be planned.
func wantNot(t *testing.T, s shape.Shape, root seal.Ref, nodes []Node, changes []Change) {
	t.Helper()
	if May(s, nodes, changes) {
		t.Fatalf("May of %d pages, %d nodes, %d changes: true", s.Pages(), len(nodes), len(changes))
	}
	wantNoPlan(t, s, root, nodes, changes)
}

// changesOf turn pages to other ones, that tell k.
func changesOf(k int, pages ...int) []Change {
	var l []Change
	for _, n := range pages {
		l = append(l, Change{n, page(k + n)})
	}
	return l
}

// drawn are some of so many pages, rising.
func drawn(r *rand.Rand, pages int) []int {
	var l []int
	part := r.Float64()
	for k := range pages {
		if r.Float64() < part*part {
			l = append(l, k)
		}
	}
	return l
}

// Example 1: no changes: the root as it is.
func TestPublishedExample(t *testing.T) {
	root := seal.Ref{Place: 1, Epoch: 7, Digest: [32]byte{1, 2, 3}}
	puts, nodes, r, e := Plan(nil, key(), 9, shapeOf(t, 7), root, nil, nil)
	if len(puts) != 0 || len(nodes) != 0 || r != root || e != api.OK {
		t.Fatal(puts, nodes, r, e)
	}
}

// P16.1: of each size, each page needs the nodes on its way, and all pages need all nodes.
func TestNeed(t *testing.T) {
	for pages := 1; pages <= 216; pages++ {
		s := shapeOf(t, pages)
		for k := range pages {
			if got := Need(s, k); !slices.Equal(got, way(pages, k)) {
				t.Fatalf("Need of %d pages, of %d: %v, want %v", pages, k, got, way(pages, k))
			}
		}
		var all []int
		for item := pages; item < s.Items(); item++ {
			all = append(all, item)
		}
		if got := Need(s, upTo(pages)...); !slices.Equal(got, all) {
			t.Fatalf("Need of all %d pages: %v, want %v", pages, got, all)
		}
	}
}

// P16.1: pages come in any order, and any number of times; what is no page plays no part, nodes neither; what is handed in stays.
func TestNeedOfAny(t *testing.T) {
	r := rand.New(rand.NewSource(161))
	for range 2000 {
		pages := sizes[r.Intn(len(sizes))]
		s := shapeOf(t, pages)
		var of, real []int
		for range r.Intn(12) {
			if r.Intn(3) > 0 {
				real = append(real, r.Intn(pages))
				of = append(of, real[len(real)-1])
			} else if r.Intn(2) > 0 {
				of = append(of, pages+r.Intn(s.Items()))
			} else {
				of = append(of, noPages[r.Intn(len(noPages))])
			}
		}
		was := slices.Clone(of)
		if got := Need(s, of...); !slices.Equal(got, need(pages, real...)) {
			t.Fatalf("Need of %d pages, of %v: %v, want %v", pages, of, got, need(pages, real...))
		}
		if !slices.Equal(of, was) {
			t.Fatal("Need wrote into its pages")
		}
	}
}

// P16.1: no pages need nothing, nor do those that there are not; the zero shape has none.
func TestNeedOfNone(t *testing.T) {
	for _, pages := range sizes {
		s := shapeOf(t, pages)
		for _, of := range [][]int{nil, {}, noPages, {pages}, {pages + 1}, {s.Root()}, {-pages}} {
			if got := Need(s, of...); len(got) != 0 {
				t.Fatalf("Need of %d pages, of %v: %v", pages, of, got)
			}
		}
	}
	if got := Need(shape.Shape{}, append(upTo(216), noPages...)...); len(got) != 0 {
		t.Fatal(got)
	}
}

// P16.1: the first node of an item is found, whatever it has.
func TestFind(t *testing.T) {
	a, b := seal.Ref{Place: 1, Epoch: 2}, seal.Ref{Place: 5, Digest: [32]byte{9}}
	nodes := []Node{{7, []seal.Ref{a}}, {-3, []seal.Ref{b, a}}, {7, []seal.Ref{b}}, {8, nil}, {8, []seal.Ref{a}}, {math.MaxInt, make([]seal.Ref, 9)}, {0, []seal.Ref{b}}}
	for item, want := range map[int][]seal.Ref{7: {a}, -3: {b, a}, 8: nil, math.MaxInt: make([]seal.Ref, 9), 0: {b}} {
		if got, ok := Find(nodes, item); !ok || !slices.Equal(got, want) {
			t.Fatalf("Find(%d): %v, %v, want %v", item, got, ok, want)
		}
	}
	for _, item := range []int{math.MinInt, -4, -1, 1, 6, 9, 1<<32 + 7, math.MaxInt - 1} {
		for _, l := range [][]Node{nodes, nil, {}} {
			if got, ok := Find(l, item); ok || len(got) != 0 {
				t.Fatalf("Find(%d): %v, %v, want none", item, got, ok)
			}
		}
	}
	if got, ok := Find(nil, 0); ok || len(got) != 0 {
		t.Fatal(got, ok)
	}
}

// P16.1: what may be planned: the nodes may be in any order, and others beside them.
func TestMay(t *testing.T) {
	r := rand.New(rand.NewSource(162))
	for range 500 {
		p := strewn(t, sizes[r.Intn(len(sizes))], r)
		of := drawn(r, len(p.pages))
		nodes := p.nodes(need(len(p.pages), of...)...)
		r.Shuffle(len(nodes), func(i, j int) { nodes[i], nodes[j] = nodes[j], nodes[i] })
		// Behind the first one of an item, and of items that are not needed, all may stand.
		for range r.Intn(4) {
			nodes = append(nodes, Node{len(p.pages) + r.Intn(p.s.Items()), []seal.Ref{{Place: 2}}})
			nodes = slices.Insert(nodes, 0, Node{-1 - r.Intn(300), nil}, Node{r.Intn(len(p.pages)), make([]seal.Ref, 7)}, Node{p.s.Items() + r.Intn(300), nil})
		}
		wantPlanOf(t, p, r.Uint32(), nodes, changesOf(300, of...))
	}
}

// P16.1: no changes may always be planned.
func TestMayOfNoChanges(t *testing.T) {
	for _, s := range []shape.Shape{{}, shapeOf(t, 1), shapeOf(t, 216)} {
		for _, nodes := range [][]Node{nil, {}, {{s.Root(), nil}}, {{s.Root(), []seal.Ref{{Place: 9}}}, {-1, nil}}} {
			for _, changes := range [][]Change{nil, {}} {
				if !May(s, nodes, changes) {
					t.Fatal(s.Pages(), nodes)
				}
			}
		}
	}
}

// P16.1, P16.2: changes rise: one page comes once, and behind the lesser ones.
func TestChangesRise(t *testing.T) {
	r := rand.New(rand.NewSource(163))
	for _, pages := range []int{2, 3, 6, 7, 43, 216} {
		p := strewn(t, pages, r)
		last := pages - 1
		for _, of := range [][]int{{0, 0}, {last, last}, {1, 0}, {last, 0}, {0, last, last}, {0, last, 0}, {0, 0, last}, {last, last - 1}, {0, 1, 0, 1}} {
			wantNot(t, p.s, p.root(), p.all(), changesOf(300, of...))
		}
		wantPlan(t, p, 1, changesOf(300, 0, last))
		wantPlan(t, p, 1, changesOf(300, last-1, last))
	}
}

// P16.1, P16.2: a page that there is not cannot change, wherever it stands.
func TestChangesOfPages(t *testing.T) {
	r := rand.New(rand.NewSource(164))
	for _, pages := range []int{1, 7, 43, 216} {
		p := strewn(t, pages, r)
		for _, bad := range append(slices.Clone(noPages), pages, pages+1, p.s.Root(), p.s.Root()+1) {
			wantNot(t, p.s, p.root(), p.all(), changesOf(300, bad))
			wantNot(t, p.s, p.root(), p.all(), changesOf(300, 0, bad))
			wantNot(t, p.s, p.root(), p.all(), changesOf(300, bad, pages-1))
		}
		for k := range pages {
			wantNot(t, shape.Shape{}, p.root(), p.all(), changesOf(300, k))
		}
	}
}

// P16.1, P16.2: a page has 256 bytes.
func TestChangesOfBytes(t *testing.T) {
	r := rand.New(rand.NewSource(165))
	p := strewn(t, 7, r)
	for at := range 7 {
		for _, n := range []int{0, 1, 64, 255, 257, 512} {
			changes := changesOf(300, upTo(7)...)
			changes[at].Bytes = append(page(1), page(2)...)[:n]
			wantNot(t, p.s, p.root(), p.all(), changes)
			wantNot(t, p.s, p.root(), p.all(), changes[at:at+1])
		}
		wantNot(t, p.s, p.root(), p.all(), []Change{{Page: at}})
	}
}

// P16.1, P16.2: each node that is needed is told: with just one less it may not be; with those that are not needed missing, it may.
func TestNodesAreTold(t *testing.T) {
	r := rand.New(rand.NewSource(166))
	for _, pages := range sizes {
		p := strewn(t, pages, r)
		for _, of := range [][]int{{0}, {pages - 1}, drawn(r, pages)} {
			items := need(pages, of...)
			for _, item := range items {
				without := slices.DeleteFunc(slices.Clone(items), func(x int) bool { return x == item })
				wantNot(t, p.s, p.root(), p.nodes(without...), changesOf(300, of...))
			}
		}
		wantNot(t, p.s, p.root(), nil, changesOf(300, 0))
	}
}

// P16.1, P16.2: the first one of an item that is told counts: it has as many references as the node has children, and their places are 0 or 1.
func TestNodesAreWhole(t *testing.T) {
	r := rand.New(rand.NewSource(167))
	p := strewn(t, 43, r)
	of := []int{3, 42}
	changes := changesOf(300, of...)
	for _, item := range need(43, of...) {
		many := len(p.s.Kids(item))
		var bad []Node
		for n := range 9 {
			if n != many {
				bad = append(bad, Node{item, make([]seal.Ref, n)})
			}
		}
		for at := range many {
			for _, place := range badPlaces {
				n := p.node(item)
				n.Refs[at].Place = place
				bad = append(bad, n)
			}
		}
		for _, n := range bad {
			ahead := append([]Node{n}, p.all()...)
			wantNot(t, p.s, p.root(), ahead, changes)
			wantPlanOf(t, p, 3, append(p.all(), n), changes)
		}
	}
}

// P16.2: the root's place is 0 or 1, of no changes, too.
func TestRootsPlace(t *testing.T) {
	r := rand.New(rand.NewSource(168))
	p := strewn(t, 7, r)
	for _, place := range badPlaces {
		root := p.root()
		root.Place = place
		wantNoPlan(t, p.s, root, p.all(), changesOf(300, 2))
		wantNoPlan(t, p.s, root, p.all(), nil)
		wantNoPlan(t, p.s, root, nil, nil)
		wantNoPlan(t, shape.Shape{}, root, nil, nil)
		if !May(p.s, p.all(), changesOf(300, 2)) {
			t.Fatal("the root plays a part in May")
		}
	}
}

// P16.2: of no changes nothing is written, and the root is as it is, of any shape.
func TestNoChanges(t *testing.T) {
	r := rand.New(rand.NewSource(169))
	for _, s := range []shape.Shape{{}, shapeOf(t, 1), shapeOf(t, 43)} {
		for range 20 {
			root := seal.Ref{Place: r.Intn(2), Epoch: r.Uint32()}
			r.Read(root.Digest[:])
			var book seal.Book
			for _, nodes := range [][]Node{nil, {{s.Root(), []seal.Ref{{Place: 7}}}}} {
				puts, turned, got, e := Plan(&book, key(), r.Uint32(), s, root, nodes, nil)
				if len(puts) != 0 || len(turned) != 0 || got != root || e != api.OK || book.Len() != 0 {
					t.Fatal(puts, turned, got, e, book.Len())
				}
			}
		}
	}
}

// P16.2: plans that another program made: the digests of all puts, block (two bytes) by block, and of all nodes, item (two bytes) by item; and the root's.
func TestPlansOfOthers(t *testing.T) {
	type round struct {
		epoch            uint32
		pages            []int
		puts             int
		laid, refs, root string
		place            int
	}
	for _, c := range []struct {
		pages  int
		epoch  uint32
		rounds []round
	}{
		{1, 1, []round{
			{2, []int{0}, 2, "5badface900db482030085f62e89625a3b85aaeb1c9da56604b7369f287a4312", "5f40ffa6b7ff97578d3a10455da504af9a37cb4240870774c037a8bee072bdf1", "529dd664c41d1327255ab77e6901cdcddba323592b00730d8cd90e9a8d1bc216", 1},
			{3, []int{0}, 2, "7e276d24772dba77a65b16a8bf602dbe00f8801ef0bdd794aad40e54f077b2d3", "67b9c4480da157a522683d01a0c49c59d1b9abd53377f11ab834e00f99fd1ff5", "2fa7daeb0d6faf500cb969eeea0d85a388e09d4b760430271b3f7a6fdbd2d0e8", 0},
		}},
		{6, 9, []round{
			{0, []int{0, 5}, 3, "9edb1a556c1787b7e3633c2e02dbf6fafdcde9390f0087f5569a40504c39a742", "0afff3c8b3da5c609c35002b3b41c21c3f7a6a57f364131f17fcd844b26af938", "9ac334f2d731df4871ebf94c8bfe09df4f12b7ddf31e4e5ad62680da885d7fdb", 1},
		}},
		{7, 2, []round{
			{3, []int{6}, 3, "d05725e665a089476f2db4bbbb78ee0fc4a0d77b7759c8294ba569bcc2b7e4c3", "4a2309fa78ad2433a4e20acfe7fd7f5b07b8795de9b3c50b9fa5b118a66a4b63", "8e9233300e465c30b05dfccdaaae1d7e35394adca2bd2492913fa3cd340c8f41", 1},
			{4, []int{0, 6}, 5, "958a20e38872bbb06163565d24e42249bc08c4d0c5b45fea077e5af104de5a5a", "5141c3a8543e505ac9dbc07a738dfa427ce8e443e3aad14c9e99d7b61431aa2a", "7c69ee3c84aca861249dd08ca133f33e69e31e182c97cdad2667edb512b063aa", 0},
		}},
		{37, 5, []round{
			{6, []int{36}, 4, "f5d08bd5b5595c2c326045fc0114d346ac2d0102af6ccd2442f6a66432b02882", "6759d08b3f5b14d2134cae1754dce50646d27542ad0f3865ac765b25f38b53ca", "3f7b993d42d6bde20901630dd63a864d3395237464b791ecd8bd7b0f22a557d3", 1},
			{70000, []int{0, 35, 36}, 9, "0c4fdd40670c423a6778022e925d5287a381e5a1333eaafdfb54f3f84e8a03cf", "638bd170ba57ced6e7348fea494b0936d9ba43dd26424c9f371b3d9dd71d01ce", "c4304fb71376ae0fb04bb1800da7f41c6820f74602093490b15573ed2a0f3db1", 0},
		}},
		{43, 1, []round{
			{math.MaxUint32, []int{2, 7, 41, 42}, 11, "d396e5bd3ad5eb74862e691c8bf92e106f213e74e9f027f72e40e0977407b807", "3f88340b5932add64dac7c6064d4b2df6fa92a1905df484aa8a680b1a9ff8fba", "f376d1535950f52b8233252cf616d13b12cdf7b5f01ea59111a675f94c05ce32", 1},
			{258, []int{2, 8}, 6, "1b14d881136826fb8e10968d7bbd0fb4d97b7e65c8285826ed0c66bf76fa1635", "1d4c2a29bbdfd127d4601752c48ebb6569da7ce94282ffad211530879e8a87c1", "3271d33a2a1a8d5d4d4709cfdf95667dba98674e2c115c4ac7ce9a15bb417792", 0},
		}},
		{216, 7, []round{
			{8, upTo(216), 259, "06671bdbba8cc5de93a8c144f6fdaac8ae96d0e407a339768a4fe90ec72217cd", "a2fdcc237fa08bf10adce8d54ec6f94d665560ae917a8af9bdd104ee5a66838d", "524f2b5667956fa8ef8d65055d2b3450ef4156173623fde3014324b584b60e51", 1},
			{9, []int{0, 100, 215}, 10, "353c1d0c4c0d7129a864ed50f0da754f7d6ccfd482386592ff4a9acf3090d47c", "43d533e196718e6b643b3aeccc0578ab9ac1116102152ca936ce41d541d8f983", "c09e4caffb1c9fd2006109d085e24bc8470898c0bcf0bb26f8530b163db3d388", 0},
		}},
	} {
		p, st := stored(t, c.pages, c.epoch)
		for i, x := range c.rounds {
			puts, nodes, root, e := Plan(nil, key(), x.epoch, p.s, p.root(), p.all(), changesOf(1000*(i+1), x.pages...))
			if e != api.OK || len(puts) != x.puts || laidSum(puts) != x.laid || nodeSum(nodes) != x.refs {
				t.Fatalf("the round %d of %d pages: %v, %d puts", i, c.pages, e, len(puts))
			}
			if root.Place != x.place || root.Epoch != x.epoch || hex.EncodeToString(root.Digest[:]) != x.root {
				t.Fatalf("the round %d of %d pages: the root %v", i, c.pages, root)
			}
			for _, k := range x.pages {
				p.pages[k] = page(1000*(i+1) + k)
			}
			tree.Lay(st, puts)
			p = wantWhole(t, st, p.s, root, p.pages)
		}
	}
}

// laidSum is the digest of puts.
func laidSum(puts []tree.Put) string {
	var b []byte
	for _, p := range puts {
		b = append(binary.LittleEndian.AppendUint16(b, uint16(p.Block)), p.Bytes...)
	}
	sum := sha256.Sum256(b)
	return hex.EncodeToString(sum[:])
}

// nodeSum is the digest of nodes, and their references.
func nodeSum(nodes []Node) string {
	var b []byte
	for _, n := range nodes {
		b = binary.LittleEndian.AppendUint16(b, uint16(n.Item))
		for _, r := range n.Refs {
			b = append(binary.LittleEndian.AppendUint32(append(b, byte(r.Place)), r.Epoch), r.Digest[:]...)
		}
	}
	sum := sha256.Sum256(b)
	return hex.EncodeToString(sum[:])
}

// P16.2: each page alone, of each size, of images whose items are in either place.
func TestPlanOfOnePage(t *testing.T) {
	r := rand.New(rand.NewSource(170))
	for pages := 1; pages <= 216; pages++ {
		p := strewn(t, pages, r)
		for k := range pages {
			if slices.Contains(sizes, pages) || k%17 == pages%17 || k == pages-1 {
				wantPlan(t, p, r.Uint32(), changesOf(300, k))
			}
		}
	}
}

// P16.2: any pages, and all of them.
func TestPlanOfPages(t *testing.T) {
	r := rand.New(rand.NewSource(171))
	for _, pages := range sizes {
		p := strewn(t, pages, r)
		for range 12 {
			wantPlan(t, p, r.Uint32(), changesOf(300, drawn(r, pages)...))
		}
		wantPlan(t, p, 1, changesOf(300, upTo(pages)...))
	}
}

// P16.2: epochs at their ends, and the one that was; a page that stays as it was is written, too.
func TestPlanOfEpochs(t *testing.T) {
	p, _ := stored(t, 43, 5)
	for _, epoch := range []uint32{0, 1, 4, 5, 6, 255, 256, 1 << 16, 1 << 31, math.MaxUint32} {
		want, _ := wantPlan(t, p, epoch, changesOf(300, 0, 6, 42))
		if want.root == p.root() {
			t.Fatal(epoch)
		}
		wantPlan(t, p, epoch, changesOf(0, 0, 6, 42))
		wantPlan(t, p, epoch, []Change{{7, make([]byte, 256)}, {8, make([]byte, 256)}})
	}
}

// P16.2: a plan hangs on its key, its epoch, what changes, and what stays.
func TestPlanHangsOnAll(t *testing.T) {
	r := rand.New(rand.NewSource(172))
	p := strewn(t, 43, r)
	was, _ := wantPlan(t, p, 5, changesOf(300, 7))
	k := key()
	k[31] ^= 128
	want, _ := expected(t, p, k, 5, changesOf(300, 7))
	puts, nodes, root, e := Plan(nil, k, 5, p.s, p.root(), p.all(), changesOf(300, 7))
	if got := (plan{puts, nodes, root}); e != api.OK || !got.same(want) || got.root == was.root {
		t.Fatal("the key plays no part", e)
	}
	if got, _ := wantPlan(t, p, 6, changesOf(300, 7)); got.root.Digest == was.root.Digest {
		t.Fatal("the epoch plays no part")
	}
	for at := range 256 {
		c := changesOf(300, 7)
		c[0].Bytes[at] ^= 1
		if got, _ := wantPlan(t, p, 5, c); got.root.Digest == was.root.Digest {
			t.Fatalf("the byte %d plays no part", at)
		}
	}
	// The page 7 has the node 44 over it, of the pages 6 to 11, that one 51, of the nodes 43 to 48, and that the root.
	for _, item := range []int{6, 8, 11, 43, 45, 48, 52} {
		q := picture{s: p.s, pages: p.pages, refs: slices.Clone(p.refs)}
		q.refs[item].Digest[item%32] ^= 1
		if got, _ := wantPlan(t, q, 5, changesOf(300, 7)); got.root.Digest == was.root.Digest {
			t.Fatalf("the item %d plays no part", item)
		}
	}
	// Of what is hidden anew, the old digest and epoch play none.
	for _, item := range []int{7, 44, 51, 53, 0, 12, 49} {
		q := picture{s: p.s, pages: p.pages, refs: slices.Clone(p.refs)}
		q.refs[item].Digest[item%32] ^= 1
		q.refs[item].Epoch++
		if got, _ := wantPlan(t, q, 5, changesOf(300, 7)); !got.same(was) {
			t.Fatalf("the item %d plays a part", item)
		}
	}
}

// P16.3: no block is written that the old root's image uses, none twice, and none but those of its items.
func TestNothingIsWrittenOver(t *testing.T) {
	r := rand.New(rand.NewSource(173))
	for range 300 {
		p := strewn(t, 1+r.Intn(216), r)
		used := map[int]bool{}
		for item, ref := range p.refs {
			used[2+2*item+ref.Place] = true
		}
		puts, _, _, e := Plan(nil, key(), 1, p.s, p.root(), p.all(), changesOf(300, drawn(r, len(p.pages))...))
		if e != api.OK {
			t.Fatal(e)
		}
		for _, put := range puts {
			if used[put.Block] || put.Block < 2 || put.Block >= p.s.Blocks() {
				t.Fatalf("of %d pages the block %d is written", len(p.pages), put.Block)
			}
			used[put.Block] = true
		}
	}
}

// P16.4: laid behind the old image, the new root's image has the new pages, and all others as they were; the old root's is as it was. So it goes on, round by round.
func TestLaidBehindTheOld(t *testing.T) {
	r := rand.New(rand.NewSource(174))
	for _, pages := range sizes {
		p, st := stored(t, pages, 1)
		for round := range 6 {
			of := drawn(r, pages)
			if round == 0 {
				of = upTo(pages)
			}
			want, q := wantPlanOf(t, p, uint32(2+round), p.all(), changesOf(1000+round*300, of...))
			puts, _, root, e := Plan(nil, key(), uint32(2+round), p.s, p.root(), p.all(), changesOf(1000+round*300, of...))
			if e != api.OK || root != want.root {
				t.Fatal(e)
			}
			if e := tree.Lay(st, puts); e != api.OK {
				t.Fatal(e)
			}
			wantWhole(t, st, p.s, p.root(), p.pages)
			p = wantWhole(t, st, p.s, root, q.pages)
			if !slices.Equal(p.refs, q.refs) {
				t.Fatalf("the round %d of %d pages: other references", round, pages)
			}
		}
	}
}

// P16.4: what is answered of nodes serves the next plan, without a look at the store.
func TestNodesServeOn(t *testing.T) {
	r := rand.New(rand.NewSource(175))
	for _, pages := range []int{1, 6, 7, 43, 216} {
		p, st := stored(t, pages, 1)
		nodes, root, now := p.all(), p.root(), p.pages
		for round := range 12 {
			changes := changesOf(1000+round*300, drawn(r, pages)...)
			puts, turned, next, e := Plan(nil, key(), uint32(2+round), p.s, root, nodes, changes)
			if e != api.OK || tree.Lay(st, puts) != api.OK {
				t.Fatal(e)
			}
			// The first one of an item counts: the new ones stand ahead.
			nodes, root = append(turned, nodes...), next
			for _, c := range changes {
				now[c.Page] = c.Bytes
			}
			wantWhole(t, st, p.s, root, now)
		}
	}
}

// R3: the same arguments answer the same, however often.
func TestSameAgain(t *testing.T) {
	r := rand.New(rand.NewSource(176))
	p := strewn(t, 216, r)
	changes := changesOf(300, drawn(r, 216)...)
	for range 30 {
		wantPlanOf(t, p, 9, p.all(), changes)
	}
}

// R4: no call writes into what it is handed, or keeps it.
func TestArgumentsStay(t *testing.T) {
	r := rand.New(rand.NewSource(177))
	p := strewn(t, 43, r)
	room := append(page(301), page(302)...)
	changes := []Change{{1, room[:256]}, {42, page(303)}, {9, nil}}[:2]
	nodes := p.all()
	want, _ := expected(t, p, key(), 4, []Change{{1, page(301)}, {42, page(303)}})
	puts, turned, root, e := Plan(nil, key(), 4, p.s, p.root(), nodes, changes)
	got := plan{puts, turned, root}
	if e != api.OK || !got.same(want) {
		t.Fatal(e)
	}
	if !bytes.Equal(room, append(page(301), page(302)...)) || !bytes.Equal(changes[1].Bytes, page(303)) || changes[0].Page != 1 || changes[1].Page != 42 || changes[:3][2].Page != 9 {
		t.Fatal("Plan wrote into its changes")
	}
	if !(plan{nodes: nodes}).same(plan{nodes: p.all()}) {
		t.Fatal("Plan wrote into its nodes")
	}
	clear(room)
	clear(changes)
	for _, n := range nodes {
		clear(n.Refs)
	}
	clear(nodes)
	if !got.same(want) {
		t.Fatal("Plan keeps what it was handed")
	}
}

// R4: what is answered is the caller's: to write into it, or behind it, turns nothing else.
func TestAnswersAreTheCallers(t *testing.T) {
	r := rand.New(rand.NewSource(178))
	p := strewn(t, 43, r)
	nodes := p.all()
	var book seal.Book
	want, _ := expected(t, p, key(), 4, changesOf(300, 1, 8, 42))
	puts, turned, _, e := Plan(&book, key(), 4, p.s, p.root(), nodes, changesOf(300, 1, 8, 42))
	if e != api.OK {
		t.Fatal(e)
	}
	for i, put := range puts {
		if !bytes.Equal(put.Bytes, want.puts[i].Bytes) {
			t.Fatalf("the put %d shares memory", i)
		}
		clear(append(put.Bytes, page(1)...))
		clear(put.Bytes)
	}
	for i, n := range turned {
		if !slices.Equal(n.Refs, want.nodes[i].Refs) {
			t.Fatalf("the node %d shares memory", n.Item)
		}
		clear(append(n.Refs, n.Refs...))
		clear(n.Refs)
	}
	for i, text := range book.Texts() {
		if !bytes.Equal(text, want.puts[i].Bytes) {
			t.Fatal("the book shares memory")
		}
	}
	refs, _ := Find(nodes, 43)
	clear(append(refs, refs...))
	clear(refs)
	items := Need(p.s, 1)
	clear(append(items, items...))
	clear(items)
	if !slices.Equal(Need(p.s, 1), way(43, 1)) || !(plan{nodes: nodes}).same(plan{nodes: p.all()}) {
		t.Fatal("an answer shares memory with what was handed in")
	}
}
