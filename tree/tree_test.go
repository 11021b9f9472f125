package tree

import (
	"bytes"
	"crypto/sha256"
	"encoding/binary"
	"encoding/hex"
	"math"
	"math/rand"
	"slices"
	"testing"

	"carling/api"
	"carling/dev"
	"carling/seal"
	"carling/shape"
)

// sizes are numbers of pages: the least, the most, and those about a level's end.
var sizes = []int{1, 2, 5, 6, 7, 12, 13, 35, 36, 37, 42, 43, 72, 73, 180, 181, 215, 216}

// badPlaces are no places of a block.
var badPlaces = []int{math.MinInt, -1 << 32, -256, -2, -1, 2, 3, 255, 256, 1 << 32, 1<<32 + 1, math.MaxInt}

func key() [32]byte {
	var k [32]byte
	for i := range k {
		k[i] = byte(i + 1)
	}
	return k
}

// page are 256 bytes that tell k and their places, none of them 0.
func page(k int) []byte {
	b := make([]byte, 256)
	for i := range b {
		b[i] = byte((i*7+k*31)%251 + 1)
	}
	return b
}

func pagesOf(many int) [][]byte {
	var l [][]byte
	for k := range many {
		l = append(l, page(k))
	}
	return l
}

func shapeOf(t *testing.T, pages int) shape.Shape {
	t.Helper()
	s, e := shape.New(pages)
	if e != api.OK {
		t.Fatal(pages, e)
	}
	return s
}

func storeOf(t *testing.T, blocks int) *dev.Store {
	t.Helper()
	st, e := dev.New(blocks)
	if e != api.OK {
		t.Fatal(blocks, e)
	}
	return st
}

// picture is an image as it lies in a store, and what a test knows of it: its items' references and sealed blocks.
type picture struct {
	s      shape.Shape
	st     *dev.Store
	pages  [][]byte
	refs   []seal.Ref
	sealed [][]byte
}

func (p picture) root() seal.Ref { return p.refs[len(p.refs)-1] }

// block is where an item is.
func (p picture) block(item int) int { return 2 + 2*item + p.refs[item].Place }

// nodePage is the page of references, each part put where the document says.
func nodePage(refs ...seal.Ref) []byte {
	b := make([]byte, 256)
	b[0] = byte(len(refs))
	for i, r := range refs {
		at := 1 + 37*i
		b[at] = byte(r.Place)
		binary.LittleEndian.PutUint32(b[at+1:], r.Epoch)
		copy(b[at+5:], r.Digest[:])
	}
	return b
}

// drawn is a picture, item by item: where tells each one's place and epoch, and turn, if there is one, what its block hides instead of what it is.
func drawn(t *testing.T, pages [][]byte, where func(item int) (int, uint32), turn func(item int, page []byte) []byte) picture {
	t.Helper()
	p := picture{s: shapeOf(t, len(pages)), pages: pages}
	p.st = storeOf(t, p.s.Blocks())
	for item := range p.s.Items() {
		var text []byte
		if item < len(pages) {
			text = pages[item]
		} else {
			var kids []seal.Ref
			for _, kid := range p.s.Kids(item) {
				kids = append(kids, p.refs[kid])
			}
			text = nodePage(kids...)
		}
		if turn != nil {
			text = turn(item, text)
		}
		place, epoch := where(item)
		block := 2 + 2*item + place
		sealed, e := seal.Seal(key(), epoch, block, text)
		if e != api.OK {
			t.Fatal(e)
		}
		p.refs = append(p.refs, seal.Ref{Place: place, Epoch: epoch, Digest: sha256.Sum256(sealed)})
		p.sealed = append(p.sealed, sealed)
		if e := p.st.Write(block, sealed); e != api.OK {
			t.Fatal(e)
		}
	}
	p.st.Flush()
	return p
}

// atFirst is where all items of an image that is made are.
func atFirst(epoch uint32) func(int) (int, uint32) {
	return func(int) (int, uint32) { return 0, epoch }
}

// scattered is where the items of an image are that turned many times.
func scattered(r *rand.Rand) func(int) (int, uint32) {
	return func(int) (int, uint32) { return r.Intn(2), r.Uint32() >> r.Intn(32) }
}

// path is the way from an item to the root, counted by hand: level by level the items' sixth parts.
func path(p picture, item int) []int {
	l := []int{item}
	first, many := 0, len(p.pages)
	for level := 0; level == 0 || many > 1; level++ {
		item = first + many + (item-first)/6
		first, many = first+many, (many+5)/6
		l = append(l, item)
	}
	return l
}

func wantMade(t *testing.T, b *seal.Book, epoch uint32, pages [][]byte) ([]Put, seal.Ref) {
	t.Helper()
	puts, root, e := Make(b, key(), epoch, pages)
	if e != api.OK {
		t.Fatalf("Make of %d pages: %v", len(pages), e)
	}
	return puts, root
}

func wantLaid(t *testing.T, st *dev.Store, puts []Put) {
	t.Helper()
	if e := Lay(st, puts); e != api.OK {
		t.Fatalf("Lay of %d puts: %v", len(puts), e)
	}
}

// wantWay fails unless a page, and the references on its way, are told, and the blocks on the way noted, the root's first.
func wantWay(t *testing.T, p picture, page int) {
	t.Helper()
	var book seal.Book
	refs, text, e := Way(&book, p.st, key(), p.s, p.root(), page)
	var want []seal.Ref
	var noted [][]byte
	for _, item := range path(p, page) {
		want = append(want, p.refs[item])
		noted = slices.Insert(noted, 0, p.sealed[item])
	}
	if e != api.OK || !slices.Equal(refs, want) || !bytes.Equal(text, p.pages[page]) {
		t.Fatalf("Way to the page %d of %d: %v, %x, %v", page, len(p.pages), refs, text, e)
	}
	wantNoted(t, &book, noted)
}

// wantWhole fails unless all is told, and all blocks noted, the last item's first.
func wantWhole(t *testing.T, p picture) {
	t.Helper()
	var book seal.Book
	refs, pages, e := Whole(&book, p.st, key(), p.s, p.root())
	if e != api.OK || !slices.Equal(refs, p.refs) || !samePages(pages, p.pages) {
		t.Fatalf("Whole of %d pages: %v, %x, %v", len(p.pages), refs, pages, e)
	}
	noted := slices.Clone(p.sealed)
	slices.Reverse(noted)
	wantNoted(t, &book, noted)
}

// What is answered beside an error is to be the zero one. The answer is how many texts were noted.
func wantNoWay(t *testing.T, p picture, root seal.Ref, page int, want api.Errno) int {
	t.Helper()
	var book seal.Book
	if refs, text, e := Way(&book, p.st, key(), p.s, root, page); len(refs) != 0 || len(text) != 0 || e != want {
		t.Fatalf("Way to the page %d of %d: %v, %x, %v, want %v", page, p.s.Pages(), refs, text, e, want)
	}
	return book.Len()
}

func wantNoWhole(t *testing.T, p picture, root seal.Ref, want api.Errno) int {
	t.Helper()
	var book seal.Book
	if refs, pages, e := Whole(&book, p.st, key(), p.s, root); len(refs) != 0 || len(pages) != 0 || e != want {
		t.Fatalf("Whole of %d pages: %v, %x, %v, want %v", p.s.Pages(), refs, pages, e, want)
	}
	return book.Len()
}

func wantNoFetch(t *testing.T, st *dev.Store, s shape.Shape, item int, r seal.Ref, want api.Errno) {
	t.Helper()
	var book seal.Book
	if text, e := Fetch(&book, st, key(), s, item, r); len(text) != 0 || e != want {
		t.Fatalf("Fetch of the item %d of %d pages by %v: %x, %v, want %v", item, s.Pages(), r, text, e, want)
	}
	if noted := book.Len() > 0; noted != (want == api.ErrCorrupt) {
		t.Fatalf("Fetch of the item %d: %d texts were noted", item, book.Len())
	}
}

func wantNoKids(t *testing.T, s shape.Shape, item int, page []byte, want api.Errno) {
	t.Helper()
	if refs, e := Kids(s, item, page); len(refs) != 0 || e != want {
		t.Fatalf("Kids of the item %d of %d pages: %v, %v, want %v", item, s.Pages(), refs, e, want)
	}
}

func wantNoted(t *testing.T, b *seal.Book, want [][]byte) {
	t.Helper()
	if !samePages(b.Texts(), want) {
		t.Fatalf("%d texts were noted, want %d, or others", b.Len(), len(want))
	}
}

func samePages(a, b [][]byte) bool {
	return slices.EqualFunc(a, b, func(x, y []byte) bool { return bytes.Equal(x, y) })
}

// wantAsIntact fails unless just those pages are told whose blocks, and all on their ways, are as they were; and all of them just if all are: P14.5.
func wantAsIntact(t *testing.T, p picture) {
	t.Helper()
	intact := make([]bool, len(p.refs))
	for item := range p.refs {
		b, e := p.st.Read(p.block(item))
		intact[item] = e == api.OK && bytes.Equal(b, p.sealed[item])
	}
	for page := range p.pages {
		way := path(p, page)
		slices.Reverse(way)
		broken := slices.IndexFunc(way, func(item int) bool { return !intact[item] })
		if broken < 0 {
			wantWay(t, p, page)
		} else if noted := wantNoWay(t, p, p.root(), page, api.ErrCorrupt); noted != broken+1 {
			t.Fatalf("Way to the page %d: %d texts were noted, want %d", page, noted, broken+1)
		}
	}
	slices.Reverse(intact)
	if broken := slices.Index(intact, false); broken < 0 {
		wantWhole(t, p)
	} else if noted := wantNoWhole(t, p, p.root(), api.ErrCorrupt); noted != broken+1 {
		t.Fatalf("Whole: %d texts were noted, want %d", noted, broken+1)
	}
}

// Example 1: of one page there are two puts, of the blocks 2 and 4.
func TestPublishedExample(t *testing.T) {
	puts, _ := wantMade(t, nil, 1, pagesOf(1))
	if len(puts) != 2 || puts[0].Block != 2 || puts[1].Block != 4 {
		t.Fatal(puts)
	}
}

// P14.1: images that another program made: the root's digest, and that of all puts, block (two bytes) by block.
func TestImagesOfOthers(t *testing.T) {
	for _, c := range []struct {
		pages      int
		epoch      uint32
		puts       int
		root, laid string
	}{
		{1, 1, 2, "9404bb74951b8c80bcc2cd195982474bf80299dc3338f8fc6b6bc2cefabbefc1", "47061fb10289f1f3cf44bdc9f1b95f7ca98201222a97b500ff7c8d318113a99a"},
		{1, 0, 2, "868ad66319af4f3af51550f9ec695f53b044e558130f3c381769c21bbaa261bf", "965227d361cfd9a132bc6ad246b6cf9be207cc697db777216f39baaf45eca1c5"},
		{2, math.MaxUint32, 3, "ea64509d6ac15665a5904ce459d4e60779b57217a7b71423caba48d20caf1833", "8dc73f80a89c3052512a759f07b10262737dcb4f24ccbc4dd306c644284efbec"},
		{6, 5, 7, "b40f6037ad5142123f29ec5ef9e0a5424cf12b7badd38caa162dff26c01027af", "615f63fb58411cdd72d26b99437bfb8f1cf857f80cf786d3d9922c74710a21c0"},
		{7, 258, 10, "58060a00d0a3c5c91b90ed7cd10066fadf16655502f0724becaa065a3900e1e1", "0aa06ef4da30e8263c484af890ebeee24d5fa3e057fc3b171d5a4c9b63554e9a"},
		{36, 70000, 43, "06dcfbd69f2442b971083ad89aad1540d1e72260a2121d3acd36d41ac3f18e6e", "be4e60d73fbcb9db59e4b01065509788ecf67afabed4f12c1eb23d6b3d607a79"},
		{37, 3, 47, "5ca99197c260990a49bba32ddef361a3024f25b03ed20c4e1eef735a25660b64", "00e6f1259c4d4e9660a940a4efb46117d3315d4fb580201edb6137ab29a314ed"},
		{216, 1 << 31, 259, "6c983fd6cd204a7f9918b927e1fac661aab225162d3ceb06b2bef8926f9ef38d", "5b54d4d6b06ed01d4f9baab754efc578896143a6ab1958429f99691a56bdbbd3"},
	} {
		puts, root := wantMade(t, nil, c.epoch, pagesOf(c.pages))
		var laid []byte
		for _, p := range puts {
			laid = append(binary.LittleEndian.AppendUint16(laid, uint16(p.Block)), p.Bytes...)
		}
		sum := sha256.Sum256(laid)
		if len(puts) != c.puts || hex.EncodeToString(sum[:]) != c.laid {
			t.Errorf("%d pages: %d puts, %x", c.pages, len(puts), sum)
		}
		if root.Place != 0 || root.Epoch != c.epoch || hex.EncodeToString(root.Digest[:]) != c.root {
			t.Errorf("the root of %d pages: %v, %x", c.pages, root, root.Digest)
		}
	}
}

// P14.1: of each size each item is hidden in its block of the place 0, rising, and noted in that order.
func TestMake(t *testing.T) {
	for pages := 1; pages <= 216; pages++ {
		epoch := uint32(pages * 0x01010101)
		p := drawn(t, pagesOf(pages), atFirst(epoch), nil)
		var book seal.Book
		puts, root := wantMade(t, &book, epoch, p.pages)
		if len(puts) != len(p.sealed) || root != p.root() {
			t.Fatalf("%d pages: %d puts, %v", pages, len(puts), root)
		}
		for item, put := range puts {
			if put.Block != 2+2*item || !bytes.Equal(put.Bytes, p.sealed[item]) {
				t.Fatalf("the put %d of %d pages: the block %d, %x", item, pages, put.Block, put.Bytes)
			}
		}
		wantNoted(t, &book, p.sealed)
	}
}

// P14.1: pages that are the same, and empty ones, are hidden each in its own block.
func TestMakeOfSamePages(t *testing.T) {
	for _, pages := range sizes {
		l := slices.Repeat([][]byte{make([]byte, 256)}, pages)
		puts, root := wantMade(t, nil, 7, l)
		p := drawn(t, l, atFirst(7), nil)
		if root != p.root() || len(puts) != len(p.sealed) {
			t.Fatal(pages, root, len(puts))
		}
		seen := map[string]bool{}
		for _, put := range puts {
			seen[string(put.Bytes)] = true
		}
		if len(seen) != len(puts) {
			t.Fatalf("%d puts of %d pages are %d", len(puts), pages, len(seen))
		}
	}
}

// P14.1: an image hangs on its key, its epoch and each of its pages.
func TestMakeHangsOnAll(t *testing.T) {
	_, was := wantMade(t, nil, 7, pagesOf(43))
	if _, root := wantMade(t, nil, 8, pagesOf(43)); root.Digest == was.Digest {
		t.Fatal("the epoch plays no part")
	}
	other := key()
	other[31] ^= 128
	if _, root, e := Make(nil, other, 7, pagesOf(43)); e != api.OK || root.Digest == was.Digest {
		t.Fatal("the key plays no part", e)
	}
	for k := range 43 {
		l := pagesOf(43)
		l[k][255-k] ^= 1
		if _, root := wantMade(t, nil, 7, l); root.Digest == was.Digest {
			t.Fatalf("the page %d plays no part", k)
		}
	}
}

// P14.1: there are 1 to 216 pages of 256 bytes: others are ErrArg, and nothing is noted.
func TestMakeRefuses(t *testing.T) {
	refused := func(pages [][]byte) {
		t.Helper()
		var book seal.Book
		puts, root, e := Make(&book, key(), 1, pages)
		if len(puts) != 0 || root != (seal.Ref{}) || e != api.ErrArg || book.Len() != 0 {
			t.Fatalf("Make of %d pages: %v, %v, %v, %d texts", len(pages), puts, root, e, book.Len())
		}
	}
	refused(nil)
	refused([][]byte{})
	for _, many := range []int{217, 218, 256, 257, 432, 1 << 16} {
		refused(slices.Repeat([][]byte{page(1)}, many))
	}
	for _, many := range []int{1, 2, 7, 43, 216} {
		for at := range many {
			for _, n := range []int{0, 1, 64, 255, 257, 512} {
				l := pagesOf(many)
				l[at] = append(page(1), page(2)...)[:n]
				refused(l)
			}
			l := pagesOf(many)
			l[at] = nil
			refused(l)
		}
	}
}

// P14.1: puts are written in order, and wait.
func TestLay(t *testing.T) {
	st := storeOf(t, 6)
	wantLaid(t, st, []Put{{5, page(0)}, {0, page(1)}, {5, page(2)}, {3, page(3)}})
	if !slices.Equal(st.Waiting(), []int{5, 0, 5, 3}) || !slices.Equal(st.Trace(), []int{5, 0, 5, 3}) {
		t.Fatal(st.Waiting(), st.Trace())
	}
	for block, want := range map[int][]byte{0: page(1), 1: make([]byte, 256), 3: page(3), 5: page(2)} {
		if b, e := st.Read(block); e != api.OK || !bytes.Equal(b, want) {
			t.Fatalf("the block %d: %x, %v", block, b, e)
		}
	}
	wantLaid(t, st, nil)
	wantLaid(t, st, []Put{})
	if len(st.Trace()) != 4 {
		t.Fatal(st.Trace())
	}
}

// P14.1: at the first error no more is written; what stands ahead of it is.
func TestLayRefuses(t *testing.T) {
	for _, bad := range []Put{
		{-1, page(1)}, {6, page(1)}, {math.MinInt, page(1)}, {math.MaxInt, page(1)}, {1 << 32, page(1)},
		{2, nil}, {2, page(1)[:255]}, {2, append(page(1), 0)}, {},
	} {
		for ahead := range 4 {
			st := storeOf(t, 6)
			var puts []Put
			for k := range ahead {
				puts = append(puts, Put{5 - k, page(k)})
			}
			puts = append(puts, bad, Put{1, page(9)})
			if e := Lay(st, puts); e != api.ErrArg {
				t.Fatalf("Lay of %v: %v", bad, e)
			}
			if !slices.Equal(st.Waiting(), []int{5, 4, 3}[:ahead]) {
				t.Fatalf("Lay of %v behind %d: %v", bad, ahead, st.Waiting())
			}
		}
	}
	for _, st := range []*dev.Store{nil, {}} {
		if e := Lay(st, []Put{{0, page(1)}}); e != api.ErrNil {
			t.Fatal(e)
		}
		if e := Lay(st, []Put{{-1, nil}}); e != api.ErrNil {
			t.Fatal(e)
		}
	}
}

// P14.2: each item is fetched by its reference, in whichever place.
func TestFetch(t *testing.T) {
	r := rand.New(rand.NewSource(142))
	for _, pages := range sizes {
		p := drawn(t, pagesOf(pages), scattered(r), nil)
		for item, ref := range p.refs {
			var want []byte
			if item < pages {
				want = p.pages[item]
			} else {
				var kids []seal.Ref
				for _, kid := range p.s.Kids(item) {
					kids = append(kids, p.refs[kid])
				}
				want = nodePage(kids...)
			}
			var book seal.Book
			if got, e := Fetch(&book, p.st, key(), p.s, item, ref); e != api.OK || !bytes.Equal(got, want) {
				t.Fatalf("the item %d of %d pages: %x, %v", item, pages, got, e)
			}
			wantNoted(t, &book, [][]byte{p.sealed[item]})
			other := ref
			other.Place = 1 - ref.Place
			wantNoFetch(t, p.st, p.s, item, other, api.ErrCorrupt)
			other = ref
			other.Digest[item%32] ^= 1
			wantNoFetch(t, p.st, p.s, item, other, api.ErrCorrupt)
			if at := (item + 1) % len(p.refs); at != item {
				wantNoFetch(t, p.st, p.s, at, ref, api.ErrCorrupt)
			}
		}
	}
}

// P14.2: no item, and no place, is ErrArg, ahead of layer 6's error.
func TestFetchRefuses(t *testing.T) {
	p := drawn(t, pagesOf(7), atFirst(1), nil)
	for _, st := range []*dev.Store{p.st, nil, {}, storeOf(t, 1), storeOf(t, 1024)} {
		for _, item := range []int{math.MinInt, -1 << 32, -2, -1, 10, 11, 22, 1 << 32, math.MaxInt - 1, math.MaxInt} {
			for _, place := range append(slices.Clone(badPlaces), 0, 1) {
				wantNoFetch(t, st, p.s, item, seal.Ref{Place: place}, api.ErrArg)
			}
		}
		for item, r := range p.refs {
			for _, place := range badPlaces {
				r.Place = place
				wantNoFetch(t, st, p.s, item, r, api.ErrArg)
			}
			wantNoFetch(t, st, shape.Shape{}, item, p.refs[item], api.ErrArg)
		}
	}
	for item, r := range p.refs {
		wantNoFetch(t, nil, p.s, item, r, api.ErrNil)
		wantNoFetch(t, &dev.Store{}, p.s, item, r, api.ErrNil)
		for blocks := 1; blocks <= p.block(item); blocks++ {
			wantNoFetch(t, storeOf(t, blocks), p.s, item, r, api.ErrArg)
		}
		wantNoFetch(t, storeOf(t, p.block(item)+1), p.s, item, r, api.ErrCorrupt)
	}
}

// P14.2: a node's page tells as many references as it has children.
func TestKids(t *testing.T) {
	r := rand.New(rand.NewSource(143))
	for _, pages := range sizes {
		s := shapeOf(t, pages)
		for item := pages; item < s.Items(); item++ {
			for many := 0; many <= 7; many++ {
				var refs []seal.Ref
				for range many {
					x := seal.Ref{Place: r.Intn(2), Epoch: r.Uint32()}
					r.Read(x.Digest[:])
					refs = append(refs, x)
				}
				text := nodePage(refs[:min(many, 6)]...)
				text[0] = byte(many)
				if many != len(s.Kids(item)) {
					wantNoKids(t, s, item, text, api.ErrCorrupt)
				} else if got, e := Kids(s, item, text); e != api.OK || !slices.Equal(got, refs) {
					t.Fatalf("Kids of the item %d of %d pages: %v, %v", item, pages, got, e)
				}
			}
		}
	}
}

// P14.2: what is no node is ErrArg, whatever its page; so is a page that has not 256 bytes; what is no page of so many references is corrupt.
func TestKidsRefuses(t *testing.T) {
	s := shapeOf(t, 7)
	one, six := nodePage(seal.Ref{Epoch: 1}), nodePage(make([]seal.Ref, 6)...)
	for _, text := range [][]byte{nil, one, six, make([]byte, 256), page(3), one[:255], append(page(3), 0)} {
		for _, item := range []int{math.MinInt, -1, 0, 1, 5, 6, 10, 11, 1 << 32, math.MaxInt} {
			wantNoKids(t, s, item, text, api.ErrArg)
			wantNoKids(t, shape.Shape{}, item, text, api.ErrArg)
		}
	}
	for _, n := range []int{0, 1, 38, 255, 257, 512} {
		for item := 7; item < 10; item++ {
			wantNoKids(t, s, item, append(bytes.Clone(six), six...)[:n], api.ErrArg)
		}
	}
	for at := range 2 {
		for x := 2; x < 256; x++ {
			text := nodePage(seal.Ref{}, seal.Ref{})
			text[1+37*at] = byte(x)
			wantNoKids(t, s, 9, text, api.ErrCorrupt)
		}
	}
	for at := 38; at < 256; at++ {
		text := bytes.Clone(one)
		text[at] = 1
		wantNoKids(t, s, 8, text, api.ErrCorrupt)
	}
	for item := 7; item < 10; item++ {
		wantNoKids(t, s, item, make([]byte, 256), api.ErrCorrupt)
	}
}

// P14.3, P14.4: what was made, and laid, is fetched wholly and page by page, of each size; what waits, too.
func TestMadeIsFetched(t *testing.T) {
	for pages := 1; pages <= 216; pages++ {
		p := drawn(t, pagesOf(pages), atFirst(5), nil)
		p.st = storeOf(t, p.s.Blocks())
		puts, root := wantMade(t, nil, 5, p.pages)
		wantLaid(t, p.st, puts)
		if root != p.root() {
			t.Fatal(pages, root)
		}
		wantWhole(t, p)
		p.st.Flush()
		wantWhole(t, p)
		for k := range pages {
			if slices.Contains(sizes, pages) || k%17 == pages%17 {
				wantWay(t, p, k)
			}
		}
		p.st.Crash(0, 0, 0)
		wantWay(t, p, pages-1)
	}
}

// P14.4: epochs at their ends, and a store that has more blocks than are needed.
func TestMadeOfEpochs(t *testing.T) {
	for _, epoch := range []uint32{0, 1, 255, 256, 1 << 16, 1 << 31, math.MaxUint32} {
		p := drawn(t, pagesOf(8), atFirst(epoch), nil)
		puts, root := wantMade(t, nil, epoch, p.pages)
		if p.st = storeOf(t, 1024); root != p.root() {
			t.Fatal(root)
		}
		wantLaid(t, p.st, puts)
		wantAsIntact(t, p)
	}
}

// P14.3: an image whose items are in either place, and of all epochs.
func TestScattered(t *testing.T) {
	r := rand.New(rand.NewSource(144))
	for _, pages := range sizes {
		for range 3 {
			wantAsIntact(t, drawn(t, pagesOf(pages), scattered(r), nil))
		}
	}
}

// P14.3: no page is ErrArg, ahead of all else, and nothing is fetched.
func TestWayRefusesPages(t *testing.T) {
	p := drawn(t, pagesOf(7), atFirst(1), nil)
	for _, st := range []*dev.Store{p.st, nil, {}} {
		p.st = st
		for _, page := range []int{math.MinInt, -1 << 32, -7, -1, 7, 8, 9, 10, 216, 1 << 32, math.MaxInt} {
			for _, root := range []seal.Ref{p.root(), {}, {Place: 2}} {
				if wantNoWay(t, p, root, page, api.ErrArg) != 0 {
					t.Fatal("something was noted")
				}
			}
		}
	}
}

// P14.3: the first error is the root's: a place that is none, ahead of a store that nobody made, or that is too small.
func TestFirstErrors(t *testing.T) {
	p := drawn(t, pagesOf(7), atFirst(1), nil)
	whole := p.st
	refused := func(root seal.Ref, want api.Errno, texts int) {
		t.Helper()
		for page := range 7 {
			if noted := wantNoWay(t, p, root, page, want); noted != texts {
				t.Fatalf("%d texts were noted", noted)
			}
		}
		if noted := wantNoWhole(t, p, root, want); noted != texts {
			t.Fatalf("%d texts were noted", noted)
		}
	}
	for _, st := range []*dev.Store{whole, nil, {}, storeOf(t, 20)} {
		p.st = st
		for _, place := range badPlaces {
			root := p.root()
			root.Place = place
			refused(root, api.ErrArg, 0)
		}
	}
	for _, st := range []*dev.Store{nil, {}} {
		p.st = st
		refused(p.root(), api.ErrNil, 0)
		refused(seal.Ref{}, api.ErrNil, 0)
	}
	for blocks := 1; blocks <= 20; blocks++ {
		p.st = storeOf(t, blocks)
		refused(p.root(), api.ErrArg, 0)
	}
	p.st = storeOf(t, 21)
	refused(p.root(), api.ErrCorrupt, 1)
	root := p.root()
	root.Place = 1
	refused(root, api.ErrArg, 0)
	p.st = whole
	refused(root, api.ErrCorrupt, 1)
	refused(seal.Ref{}, api.ErrCorrupt, 1)
	refused(p.refs[8], api.ErrCorrupt, 1)
}

// P14.3: a shape without pages has no page, and no last item that could be fetched.
func TestNoShape(t *testing.T) {
	p := drawn(t, pagesOf(7), atFirst(1), nil)
	p.s = shape.Shape{}
	for _, root := range []seal.Ref{p.root(), {}} {
		for _, page := range []int{-1, 0, 1} {
			wantNoWay(t, p, root, page, api.ErrArg)
		}
		wantNoWhole(t, p, root, api.ErrArg)
	}
}

// P14.3: an image of another shape is none, or has others' pages nowhere.
func TestOtherShapes(t *testing.T) {
	p := drawn(t, pagesOf(43), atFirst(1), nil)
	for pages := 1; pages <= 216; pages++ {
		if p.s = shapeOf(t, pages); pages == 43 {
			continue
		}
		p.st = storeOf(t, 1024)
		for item := range p.refs {
			if e := p.st.Write(2+2*item, p.sealed[item]); e != api.OK {
				t.Fatal(e)
			}
		}
		wantNoWhole(t, p, p.root(), api.ErrCorrupt)
		wantNoWay(t, p, p.root(), 0, api.ErrCorrupt)
		wantNoWay(t, p, p.root(), pages-1, api.ErrCorrupt)
	}
}

// P14.3, P14.5: whichever block is turned, the pages under it are corrupt, all others are told; blocks that are not used play no part.
func TestTamperedBlocks(t *testing.T) {
	r := rand.New(rand.NewSource(145))
	for _, pages := range []int{1, 6, 7, 43} {
		for _, where := range []func(int) (int, uint32){atFirst(9), scattered(r)} {
			p := drawn(t, pagesOf(pages), where, nil)
			for block := range p.s.Blocks() {
				at := r.Intn(256)
				was, _ := p.st.Read(block)
				p.st.Tamper(block, at, []byte{was[at] ^ 1<<r.Intn(8)})
				wantAsIntact(t, p)
				p.st.Tamper(block, 0, was)
			}
			wantAsIntact(t, p)
		}
	}
}

// P14.5: whatever is turned, and put to other blocks.
func TestTamperedAnyhow(t *testing.T) {
	r := rand.New(rand.NewSource(146))
	whole := 0
	for range 150 {
		p := drawn(t, pagesOf(1+r.Intn(50)), scattered(r), nil)
		for range r.Intn(4) {
			to, from := r.Intn(p.s.Blocks()), r.Intn(p.s.Blocks())
			b, _ := p.st.Read(from)
			if r.Intn(2) == 0 {
				b = b[:64*r.Intn(4)]
			}
			p.st.Tamper(to, 0, b)
		}
		wantAsIntact(t, p)
		if _, _, e := Whole(nil, p.st, key(), p.s, p.root()); e == api.OK {
			whole++
		}
	}
	if whole < 20 || whole > 130 {
		t.Fatalf("%d of 150 were whole", whole)
	}
}

// P14.3: an elder image, of the same pages or others, is not the one that the root tells.
func TestElderImage(t *testing.T) {
	elder := drawn(t, pagesOf(43), atFirst(1), nil)
	for _, pages := range [][][]byte{pagesOf(43), append(pagesOf(42), page(99))} {
		p := drawn(t, pages, atFirst(2), nil)
		p.st = elder.st
		wantAsIntact(t, p)
		wantNoWhole(t, p, p.root(), api.ErrCorrupt)
	}
	wantAsIntact(t, elder)
}

// P14.3: a node that is as it was stored, but is no page of as many references as it has children, is corrupt; what does not lie under it is told.
func TestNodesThatAreNone(t *testing.T) {
	for _, turn := range []func([]byte) []byte{
		func([]byte) []byte { return make([]byte, 256) },
		func([]byte) []byte { return page(4) },
		func(b []byte) []byte { b[0]--; return b },
		func(b []byte) []byte { b[0]++; return b },
		func(b []byte) []byte { b[1] = 2; return b },
		func(b []byte) []byte { b[255] = 1; return b },
		func(b []byte) []byte { clear(b[1+37*(int(b[0])-1):]); b[0]--; return b },
	} {
		for _, bad := range []int{43, 45, 50, 51, 52, 53} {
			p := drawn(t, pagesOf(43), atFirst(3), func(item int, text []byte) []byte {
				if item == bad {
					return turn(text)
				}
				return text
			})
			if noted := wantNoWhole(t, p, p.root(), api.ErrCorrupt); noted != 54-bad {
				t.Fatalf("the item %d: %d texts were noted", bad, noted)
			}
			for page := range 43 {
				way := path(p, page)
				at := slices.Index(way, bad)
				if at < 0 {
					wantWay(t, p, page)
				} else if noted := wantNoWay(t, p, p.root(), page, api.ErrCorrupt); noted != len(way)-at {
					t.Fatalf("the item %d, the page %d: %d texts were noted", bad, page, noted)
				}
			}
		}
	}
}

// P14.2, P14.3: by another key a page is another one, and a node none.
func TestOtherKey(t *testing.T) {
	p := drawn(t, pagesOf(7), atFirst(3), nil)
	other := key()
	other[0] ^= 1
	text, e := Fetch(nil, p.st, other, p.s, 0, p.refs[0])
	want, _ := seal.Seal(other, 3, 2, p.sealed[0])
	if e != api.OK || !bytes.Equal(text, want) || bytes.Equal(text, p.pages[0]) {
		t.Fatalf("%x, %v", text, e)
	}
	if refs, text, e := Way(nil, p.st, other, p.s, p.root(), 0); len(refs) != 0 || len(text) != 0 || e != api.ErrCorrupt {
		t.Fatal(refs, text, e)
	}
	if refs, pages, e := Whole(nil, p.st, other, p.s, p.root()); len(refs) != 0 || len(pages) != 0 || e != api.ErrCorrupt {
		t.Fatal(refs, pages, e)
	}
}

// R3: to fetch turns nothing of a store.
func TestFetchTurnsNothing(t *testing.T) {
	p := drawn(t, pagesOf(43), atFirst(3), nil)
	was, trace := p.st.Bytes(), p.st.Trace()
	wantAsIntact(t, p)
	wantNoWhole(t, p, seal.Ref{}, api.ErrCorrupt)
	if !bytes.Equal(p.st.Bytes(), was) || !slices.Equal(p.st.Trace(), trace) || len(p.st.Waiting()) != 0 {
		t.Fatal("the store was turned")
	}
}

// R4: no call writes into what it is handed, or keeps it.
func TestArgumentsStay(t *testing.T) {
	room := append(page(0), page(1)...)
	pages := [][]byte{room[:256], page(2), page(3)}
	puts, root := wantMade(t, nil, 4, pages[:2])
	if !bytes.Equal(room, append(page(0), page(1)...)) || !samePages(pages, [][]byte{page(0), page(2), page(3)}) {
		t.Fatal("Make wrote into its pages")
	}
	p := drawn(t, [][]byte{page(0), page(2)}, atFirst(4), nil)
	clear(room)
	clear(pages[1])
	p.st = storeOf(t, p.s.Blocks())
	wantLaid(t, p.st, puts)
	for item, put := range puts {
		if put.Block != 2+2*item || !bytes.Equal(put.Bytes, p.sealed[item]) {
			t.Fatalf("the put %d was turned", item)
		}
		clear(put.Bytes)
	}
	clear(puts)
	if root != p.root() {
		t.Fatal(root)
	}
	wantAsIntact(t, p)
	text := append(nodePage(p.refs[0], p.refs[1]), 9, 9)
	kids, e := Kids(p.s, 2, text[:256])
	if e != api.OK || !bytes.Equal(text, append(nodePage(p.refs[0], p.refs[1]), 9, 9)) {
		t.Fatal("Kids wrote into its page", e)
	}
	clear(text)
	if !slices.Equal(kids, p.refs[:2]) {
		t.Fatal("Kids keeps its page")
	}
}

// R4: what is answered is the caller's: to write into it, or behind it, turns nothing else.
func TestAnswersAreTheCallers(t *testing.T) {
	var book seal.Book
	p := drawn(t, pagesOf(7), atFirst(4), nil)
	puts, _ := wantMade(t, &book, 4, p.pages)
	for item, put := range puts {
		if !bytes.Equal(put.Bytes, p.sealed[item]) {
			t.Fatalf("the put %d shares memory", item)
		}
		clear(append(put.Bytes, page(1)...))
		clear(put.Bytes)
	}
	wantNoted(t, &book, p.sealed)
	refs, pages, e := Whole(nil, p.st, key(), p.s, p.root())
	if e != api.OK {
		t.Fatal(e)
	}
	for k, text := range pages {
		if !bytes.Equal(text, p.pages[k]) {
			t.Fatalf("the page %d shares memory", k)
		}
		clear(append(text, page(1)...))
		clear(text)
	}
	clear(append(refs, refs...))
	clear(refs)
	way, text, e := Way(nil, p.st, key(), p.s, p.root(), 3)
	if e != api.OK {
		t.Fatal(e)
	}
	clear(append(text, text...))
	clear(text)
	clear(append(way, way...))
	clear(way)
	one, e := Fetch(nil, p.st, key(), p.s, 3, p.refs[3])
	if e != api.OK {
		t.Fatal(e)
	}
	clear(one)
	wantAsIntact(t, p)
}
