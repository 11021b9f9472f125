package seal

import (
	"bytes"
	"crypto/sha256"
	"encoding/hex"
	"math"
	"math/rand"
	"slices"
	"testing"

	"carling/api"
	"carling/cipher"
)

// mostTexts is how many texts a book notes.
const mostTexts = 100000

// unhex is the bytes that a text of digits tells.
func unhex(t *testing.T, s string) []byte {
	t.Helper()
	b, err := hex.DecodeString(s)
	if err != nil {
		t.Fatal(err)
	}
	return b
}

// risingKey is the key of the bytes 0, 1, 2 and so on.
func risingKey() [32]byte {
	var key [32]byte
	for i := range key {
		key[i] = byte(i)
	}
	return key
}

// text is n bytes that tell k.
func text(n, k int) []byte {
	b := make([]byte, n)
	for i := range b {
		b[i] = byte(i*7 + k*31 + i/256)
	}
	return b
}

// page is 256 bytes that tell k.
func page(k int) []byte {
	return text(256, k)
}

// digestOf is what a reference's digest is to be.
func digestOf(b []byte) [32]byte {
	return sha256.Sum256(b)
}

// edgeEpochs and edgeBlocks are numbers at both ends, and ones that tell where each byte stands.
func edgeEpochs() []uint32 {
	return []uint32{0, 1, 2, 255, 256, 65535, 65536, 0x01020304, 0x04030201, 1<<31 - 1, 1 << 31, math.MaxUint32 - 1, math.MaxUint32}
}

func edgeBlocks() []int {
	return []int{0, 1, 2, 255, 256, 520, 1 << 16, 0x01020304, math.MaxInt32, 1 << 31, math.MaxUint32, 1 << 32, 1<<32 + 1, 0x0102030405060708, math.MaxInt - 1, math.MaxInt}
}

// noBlocks are numbers that no block has; the lowest bits of some are a block's.
func noBlocks() []int {
	return []int{-1, -2, -256, math.MinInt32, -1 << 32, -1<<32 + 3, math.MinInt + 3, math.MinInt}
}

// noPlaces are numbers that no place has; the lowest bits of some are a place's.
func noPlaces() []int {
	return []int{math.MinInt, -1 << 32, -1<<32 + 1, -256, -255, -2, -1, 2, 3, 255, 256, 257, 1 << 16, 1<<16 + 1, 1 << 32, 1<<32 + 1, math.MaxInt}
}

// noPages are bytes that no page has: fewer, or more.
func noPages() [][]byte {
	l := [][]byte{nil}
	for _, n := range []int{0, 1, 37, 64, 128, 255, 257, 320, 512, 65536, 65536 + 256} {
		l = append(l, text(n, 1))
	}
	return l
}

func wantSeal(t *testing.T, key [32]byte, epoch uint32, block int, page []byte) []byte {
	t.Helper()
	b, e := Seal(key, epoch, block, page)
	if len(b) != 256 || e != api.OK {
		t.Fatalf("Seal(%d, %d): %d bytes, %v", epoch, block, len(b), e)
	}
	return b
}

// wantHide fails if a page is refused, or what is answered is not its sealed block, and a reference to that.
func wantHide(t *testing.T, b *Book, key [32]byte, epoch uint32, place, block int, page []byte) ([]byte, Ref) {
	t.Helper()
	sealed, r, e := Hide(b, key, epoch, place, block, page)
	if e != api.OK || !bytes.Equal(sealed, wantSeal(t, key, epoch, block, page)) {
		t.Fatalf("Hide(%d, %d, %d): %x, %v", epoch, place, block, sealed, e)
	}
	if want := (Ref{Place: place, Epoch: epoch, Digest: digestOf(sealed)}); r != want {
		t.Fatalf("Hide(%d, %d, %d): %+v, want %+v", epoch, place, block, r, want)
	}
	return sealed, r
}

func wantOpen(t *testing.T, b *Book, key [32]byte, r Ref, block int, sealed, want []byte) {
	t.Helper()
	if p, e := Open(b, key, r, block, sealed); e != api.OK || !bytes.Equal(p, want) {
		t.Fatalf("Open(%+v, %d): %x, %v, want %x", r, block, p, e, want)
	}
}

// wantNoOpen fails if a block is opened, or refused by another error; what is answered beside it is to be nothing.
func wantNoOpen(t *testing.T, b *Book, key [32]byte, r Ref, block int, sealed []byte, want api.Errno) {
	t.Helper()
	if p, e := Open(b, key, r, block, sealed); len(p) != 0 || e != want {
		t.Fatalf("Open(%+v, %d) of %d bytes: %x, %v, want %v", r, block, len(sealed), p, e, want)
	}
}

// wantTexts fails if a book tells other texts, or another number of them.
func wantTexts(t *testing.T, b *Book, want ...[]byte) {
	t.Helper()
	for range 2 {
		if l := b.Texts(); b.Len() != len(want) || !slices.EqualFunc(l, want, bytes.Equal) {
			t.Fatalf("Texts: %d of them, Len %d, want %d: %x, want %x", len(l), b.Len(), len(want), l, want)
		}
	}
}

// P9.1: sealed blocks that another program made of the same keys, epochs, blocks and pages.
func TestSealedByAnother(t *testing.T) {
	for _, c := range []struct {
		key          [32]byte
		epoch        uint32
		block        int
		page         []byte
		want, digest string
	}{
		{[32]byte{}, 0, 0, make([]byte, 256),
			"76b8e0ada0f13d90405d6ae55386bd28bdd219b8a08ded1aa836efcc8b770dc7da41597c5157488d7724e03fb8d84a376a43b8f41518a11cc387b669b2ee65869f07e7be5551387a98ba977c732d080dcb0f29a048e3656912c6533e32ee7aed29b721769ce64e43d57133b074d839d531ed1f28510afb45ace10a1f4b794d6f2d09a0e663266ce1ae7ed1081968a0758e718e997bd362c6b0c34634a9a0b35d012737681f7b5d0f281e3afde458bc1e73d2d313c9cf94c05ff3716240a248f21320a058d7b3566bd520daaa3ed2bf0ac5b8b120fb852773c3639734b45c91a42dd4cb83f8840d2eedb158131062ac3f1f2cf8ff6dcd1856e86a1e6c3167167e",
			"cad438a643c354ef5d0bc1d6b2397ad2a6ca3a3e3d680f1cc2faa76390671e26"},
		{risingKey(), 0x44332211, 0x0c0b0a090807, rising(),
			"e1df3b8f0dcb1f486963bdbef1ddb47a33213379db7003cd3eb89ed06bc8d50b37484bf029bb56de5b10925ac6fed1fba3a8c7d00781c33854831b317810371a2c67f68d9dffc67b869fa96855441491ace3451ab02b10d9e299eaa88c0e283ae0453ff98a261899759bbb2fc30810589c90ba969d2eaafbe39609cfd3d2d48b59172d6ed52a2000ad3d92bfe5ac6776a9a1e78ff2cb6f5f9ebf401fc219d60cb3bf5571c91ef41bd776fd24351764af0dfc14d76f42d67c3fc1138420e3fee80f5bd879783be7725a1ce866751941caf008fb55fc24ad861d2b96a255cbdfb484d1a6bcc8e21e0e99988ff3a7475ad46c0e605124a71cbac05b1bf95e2a231e",
			"f2686a9abcf182df3e3cf1d895ac1dedc98c3b8bee299452c3482e76ed084522"},
		{risingKey(), math.MaxUint32, math.MaxInt, rising(),
			"5900668095b63dce2c96595b45c580f6b68dab9efe1a324d457aea30202b945f5fefb519ce02ca9581efc167b2bc02324bd2203e96beefd619f5b716b83c23a257a7eb6f7f67f7d9d3b477ef8783628b0e0583a3c01a741975d95f2999db07eee397f505f7d02c82ee0f2055c136aafa60f4fc3f290718f1b7c0b563fdae3ce114b09837251bc289c22a40fbd81a6915850b64d9b39ea87d387b317dd6c861bcd7b0570a37d0c49388647368a79b4af3da36b0c9be2c4d0bad9e7fdf37174e4c552aa11374d72a863a84170840b96edf25ebdaa1c625a2fbf37b9bd20b85719d8329d4f0c3ecb08ca7848faf5a8695d0c843884eea783bdd46886c84197982a7",
			"c252a4940e05d02eb6898a124522c18ed598aa12b04644a7a8d65db14d9aba3a"},
	} {
		want := unhex(t, c.want)
		if b := wantSeal(t, c.key, c.epoch, c.block, c.page); !bytes.Equal(b, want) {
			t.Errorf("Seal(%d, %d): %x, want %x", c.epoch, c.block, b, want)
		}
		for place := range 2 {
			r := Ref{place, c.epoch, [32]byte(unhex(t, c.digest))}
			b, got, e := Hide(nil, c.key, c.epoch, place, c.block, c.page)
			if !bytes.Equal(b, want) || got != r || e != api.OK {
				t.Errorf("Hide(%d, %d, %d): %x, %+v, %v, want %x, %+v", c.epoch, place, c.block, b, got, e, want, r)
			}
			wantOpen(t, nil, c.key, r, c.block, want, c.page)
		}
	}
}

// rising is the page of the bytes 0, 1, 2 and so on.
func rising() []byte {
	b := make([]byte, 256)
	for i := range b {
		b[i] = byte(i)
	}
	return b
}

// P9.1, P9.4, and the document's example: a page is turned by layer 4, from the counter 0 on, and is itself, sealed again.
func TestSeal(t *testing.T) {
	key := risingKey()
	for _, epoch := range edgeEpochs() {
		for _, block := range edgeBlocks() {
			p := page(block)
			b := wantSeal(t, key, epoch, block, p)
			if want := cipher.Turn(key, cipher.Nonce(epoch, uint64(block)), 0, p); !bytes.Equal(b, want) {
				t.Fatalf("Seal(%d, %d): %x, want %x", epoch, block, b, want)
			}
			if again := wantSeal(t, key, epoch, block, b); !bytes.Equal(again, p) {
				t.Fatalf("Seal(%d, %d) again: %x, want %x", epoch, block, again, p)
			}
		}
	}
}

// P9.1: another key, epoch or block makes another sealed block of the same page.
func TestSealByEachArgument(t *testing.T) {
	seen := map[string]int{}
	note := func(key [32]byte, epoch uint32, block int) {
		b := wantSeal(t, key, epoch, block, page(3))
		if seen[string(b)]++; seen[string(b)] > 1 {
			t.Fatalf("two sealed blocks are one, at the epoch %d and the block %d", epoch, block)
		}
	}
	for _, epoch := range edgeEpochs() {
		for _, block := range edgeBlocks() {
			note(risingKey(), epoch, block)
		}
	}
	for i := range 256 {
		key := risingKey()
		key[i/8] ^= 1 << (i % 8)
		note(key, 5, 7)
	}
}

// P9.1: of no page, and of no block, nothing is sealed, or hidden: ErrArg, and nothing is noted.
func TestSealRefuses(t *testing.T) {
	var book Book
	refused := func(place, block int, page []byte) {
		t.Helper()
		if b, r, e := Hide(&book, risingKey(), 9, place, block, page); len(b) != 0 || r != (Ref{}) || e != api.ErrArg {
			t.Fatalf("Hide(%d, %d) of %d bytes: %x, %+v, %v", place, block, len(page), b, r, e)
		}
	}
	unsealed := func(block int, page []byte) {
		t.Helper()
		if b, e := Seal(risingKey(), 9, block, page); len(b) != 0 || e != api.ErrArg {
			t.Fatalf("Seal(%d) of %d bytes: %x, %v", block, len(page), b, e)
		}
		for _, place := range append(noPlaces(), 0, 1) {
			refused(place, block, page)
		}
	}
	for _, p := range noPages() {
		for _, block := range append(noBlocks(), edgeBlocks()...) {
			unsealed(block, p)
		}
	}
	for _, block := range noBlocks() {
		unsealed(block, page(1))
	}
	for _, place := range noPlaces() {
		for _, block := range edgeBlocks() {
			refused(place, block, page(1))
		}
	}
	wantTexts(t, &book)
}

// P9.1, P9.4: what is hidden is opened to the same page; both digests are noted.
func TestHideAndOpen(t *testing.T) {
	key := risingKey()
	for _, epoch := range edgeEpochs() {
		for i, block := range edgeBlocks() {
			var book Book
			p := page(i)
			sealed, r := wantHide(t, &book, key, epoch, i%2, block, p)
			wantTexts(t, &book, sealed)
			wantOpen(t, &book, key, r, block, sealed, p)
			wantTexts(t, &book, sealed, sealed)
			wantOpen(t, nil, key, r, block, sealed, p)
		}
	}
}

// P9.4: any page under any key.
func TestHideAndOpenAnyPage(t *testing.T) {
	r := rand.New(rand.NewSource(9))
	var book Book
	for range 500 {
		var key [32]byte
		r.Read(key[:])
		p := make([]byte, 256)
		r.Read(p)
		block := int(r.Uint64() >> (1 + r.Intn(63)))
		sealed, ref := wantHide(t, &book, key, r.Uint32()>>r.Intn(32), r.Intn(2), block, p)
		wantOpen(t, &book, key, ref, block, sealed, p)
	}
	if book.Len() != 1000 {
		t.Fatalf("Len: %d", book.Len())
	}
}

// P9.1: of no sealed block, and of no block: ErrArg, ahead of ErrCorrupt, and nothing is noted.
func TestOpenRefuses(t *testing.T) {
	var book Book
	for _, b := range noPages() {
		for _, block := range append(noBlocks(), edgeBlocks()...) {
			wantNoOpen(t, &book, risingKey(), Ref{0, 9, digestOf(b)}, block, b, api.ErrArg)
			wantNoOpen(t, &book, risingKey(), Ref{}, block, b, api.ErrArg)
		}
	}
	for _, block := range noBlocks() {
		wantNoOpen(t, &book, risingKey(), Ref{0, 9, digestOf(page(1))}, block, page(1), api.ErrArg)
		wantNoOpen(t, &book, risingKey(), Ref{}, block, page(1), api.ErrArg)
	}
	wantTexts(t, &book)
}

// P9.1, P9.5: a sealed block of which one bit is turned is corrupt; it is noted all the same.
func TestOpenOfTurnedBits(t *testing.T) {
	key := risingKey()
	sealed, r := wantHide(t, nil, key, 5, 1, 7, page(2))
	for i := range 256 * 8 {
		var book Book
		turned := bytes.Clone(sealed)
		turned[i/8] ^= 1 << (i % 8)
		wantNoOpen(t, &book, key, r, 7, turned, api.ErrCorrupt)
		wantTexts(t, &book, turned)
	}
	wantOpen(t, nil, key, r, 7, sealed, page(2))
}

// P9.1: every bit of a reference's digest counts.
func TestOpenByAnotherDigest(t *testing.T) {
	key := risingKey()
	sealed, r := wantHide(t, nil, key, 5, 1, 7, page(2))
	for i := range 32 * 8 {
		other := r
		other.Digest[i/8] ^= 1 << (i % 8)
		wantNoOpen(t, nil, key, other, 7, sealed, api.ErrCorrupt)
	}
	wantNoOpen(t, nil, key, Ref{}, 7, sealed, api.ErrCorrupt)
	wantNoOpen(t, nil, key, Ref{1, 5, digestOf(page(2))}, 7, sealed, api.ErrCorrupt)
}

// P9.1: a block's digest tells nothing of key, epoch and block: by others it is opened to what these make of it; the place counts nowhere.
func TestOpenByOtherNumbers(t *testing.T) {
	key := risingKey()
	sealed, r := wantHide(t, nil, key, 5, 1, 7, page(2))
	other := key
	other[31] ^= 1
	wantOpen(t, nil, other, r, 7, sealed, wantSeal(t, other, 5, 7, sealed))
	wantOpen(t, nil, key, r, 8, sealed, wantSeal(t, key, 5, 8, sealed))
	wantOpen(t, nil, key, Ref{1, 6, r.Digest}, 7, sealed, wantSeal(t, key, 6, 7, sealed))
	for _, place := range append(noPlaces(), 0, 1) {
		wantOpen(t, nil, key, Ref{place, 5, r.Digest}, 7, sealed, page(2))
	}
}

// P9.5: whatever is opened by references among many blocks is what was hidden, or refused; and no noted texts clash.
func TestOpenTellsWhatWasHidden(t *testing.T) {
	r := rand.New(rand.NewSource(95))
	key := risingKey()
	var book Book
	var blocks [][]byte
	var refs []Ref
	for i := range 40 {
		sealed, ref := wantHide(t, &book, key, uint32(3+i/8), i%2, i, page(i))
		blocks, refs = append(blocks, sealed), append(refs, ref)
	}
	for range 3000 {
		i, k := r.Intn(40), r.Intn(40)
		stored := bytes.Clone(blocks[k])
		if r.Intn(2) == 0 {
			stored[r.Intn(256)] ^= byte(r.Intn(3))
		}
		if bytes.Equal(stored, blocks[i]) {
			wantOpen(t, &book, key, refs[i], i, stored, page(i))
		} else {
			wantNoOpen(t, &book, key, refs[i], i, stored, api.ErrCorrupt)
		}
	}
	if i, k, ok := Clash(book.Texts()...); i != 0 || k != 0 || ok {
		t.Fatalf("Clash: %d, %d, %v", i, k, ok)
	}
	if book.Len() != 3040 {
		t.Fatalf("Len: %d", book.Len())
	}
}

// P9.2: a book's digest is layer 1's; texts are noted in order, each as often as its digest was taken.
func TestBook(t *testing.T) {
	var book Book
	wantTexts(t, &book)
	var want [][]byte
	for _, n := range []int{0, 1, 37, 256, 0, 63, 64, 65, 37, 256, 5000, 1} {
		b := text(n, n)
		if d := book.Digest(b); d != digestOf(b) {
			t.Fatalf("Digest of %d bytes: %x, want %x", n, d, digestOf(b))
		}
		want = append(want, b)
		wantTexts(t, &book, want...)
	}
	if d := book.Digest(nil); d != digestOf(nil) {
		t.Fatalf("Digest of none: %x", d)
	}
	wantTexts(t, &book, append(want, nil)...)
}

// P9.2: a nil book digests, and notes nothing.
func TestNilBook(t *testing.T) {
	var book *Book
	for _, n := range []int{0, 1, 256} {
		if d := book.Digest(text(n, 4)); d != digestOf(text(n, 4)) {
			t.Fatalf("Digest of %d bytes: %x", n, d)
		}
		wantTexts(t, book)
	}
	sealed, r := wantHide(t, book, risingKey(), 1, 0, 2, page(1))
	wantOpen(t, book, risingKey(), r, 2, sealed, page(1))
	wantTexts(t, book)
}

// P9.2: a book that has 100000 texts notes no more of them; digests, hidden and opened blocks are told as ever.
func TestFullBook(t *testing.T) {
	var book Book
	number := func(i int) []byte { return []byte{byte(i), byte(i >> 8), byte(i >> 16)} }
	for i := range mostTexts {
		if book.Len() != i {
			t.Fatalf("Len: %d, want %d", book.Len(), i)
		}
		book.Digest(number(i))
	}
	for i := range 3 {
		if b := number(mostTexts + i); book.Digest(b) != digestOf(b) {
			t.Fatalf("Digest of a full book: %x", b)
		}
		sealed, r := wantHide(t, &book, risingKey(), 1, 0, 2, page(i))
		wantOpen(t, &book, risingKey(), r, 2, sealed, page(i))
		wantNoOpen(t, &book, risingKey(), r, 2, page(i), api.ErrCorrupt)
	}
	texts := book.Texts()
	if len(texts) != mostTexts || book.Len() != mostTexts {
		t.Fatalf("Texts: %d of them, Len %d", len(texts), book.Len())
	}
	for i, b := range texts {
		if !bytes.Equal(b, number(i)) {
			t.Fatalf("the text %d: %x, want %x", i, b, number(i))
		}
	}
}

// P9.3: the place, the epoch, the lowest byte first, the digest.
func TestLay(t *testing.T) {
	d := digestOf(nil)
	want := append([]byte{1, 0x11, 0x22, 0x33, 0x44}, d[:]...)
	if b := Lay(Ref{1, 0x44332211, d}); !bytes.Equal(b, want) {
		t.Fatalf("Lay: %x, want %x", b, want)
	}
	if b := Lay(Ref{}); !bytes.Equal(b, make([]byte, 37)) {
		t.Fatalf("Lay of the zero one: %x", b)
	}
}

// P9.3: every reference is laid as bytes that are parsed as it.
func TestLayAndParse(t *testing.T) {
	seen := map[string]Ref{}
	for place := range 2 {
		for _, epoch := range edgeEpochs() {
			for i := range 257 {
				r := Ref{Place: place, Epoch: epoch, Digest: digestOf(nil)}
				if i < 256 {
					r.Digest[i/8] ^= 1 << (i % 8)
				}
				b := Lay(r)
				if len(b) != 37 {
					t.Fatalf("Lay(%+v): %x", r, b)
				}
				if other, ok := seen[string(b)]; ok {
					t.Fatalf("%+v and %+v are laid as the same bytes", r, other)
				}
				seen[string(b)] = r
				if got, e := Parse(b); got != r || e != api.OK {
					t.Fatalf("Parse(Lay(%+v)): %+v, %v", r, got, e)
				}
			}
		}
	}
}

// P9.3: what is parsed is laid as the same bytes.
func TestParseAndLay(t *testing.T) {
	r := rand.New(rand.NewSource(93))
	for range 2000 {
		b := make([]byte, 37)
		r.Read(b)
		b[0] = byte(r.Intn(3))
		ref, e := Parse(b)
		if b[0] == 2 {
			if ref != (Ref{}) || e != api.ErrArg {
				t.Fatalf("Parse(%x): %+v, %v", b, ref, e)
			}
		} else if e != api.OK || !bytes.Equal(Lay(ref), b) {
			t.Fatalf("Parse(%x): %+v, %v, laid as %x", b, ref, e, Lay(ref))
		}
	}
}

// P9.3: of another number of bytes, or another place: ErrArg, and the zero reference.
func TestParseRefuses(t *testing.T) {
	refused := func(b []byte) {
		t.Helper()
		if r, e := Parse(b); r != (Ref{}) || e != api.ErrArg {
			t.Fatalf("Parse(%x): %+v, %v", b, r, e)
		}
	}
	refused(nil)
	for _, n := range []int{0, 1, 5, 32, 35, 36, 38, 39, 74, 256, 293, 65536 + 37} {
		refused(make([]byte, n))
		b := text(n, 1)
		if n > 0 {
			b[0] = 1
		}
		refused(b)
	}
	for place := 2; place < 256; place++ {
		b := text(37, 1)
		b[0] = byte(place)
		refused(b)
	}
}

// R1: of a place that may not be, a number of one byte is laid, as layer 5 does.
func TestLayOfNoPlace(t *testing.T) {
	for _, place := range noPlaces() {
		want := append([]byte{byte(place)}, Lay(Ref{0, 77, digestOf(nil)})[1:]...)
		if b := Lay(Ref{place, 77, digestOf(nil)}); !bytes.Equal(b, want) {
			t.Fatalf("Lay of the place %d: %x, want %x", place, b, want)
		}
	}
}

// P9.3: no two unlike texts with one digest are known: same texts, and unlike ones, are no clash.
func TestClashOfNone(t *testing.T) {
	var many [][]byte
	for i := range 3000 {
		many = append(many, text(i%40, i%7))
	}
	for _, texts := range [][][]byte{
		nil, {}, {nil}, {nil, nil}, {nil, {}}, {{}, {0}}, {{0}, {0, 0}, {0, 0, 0}},
		{page(1), page(1), page(1)}, {page(1), page(2), page(1), page(2)}, many,
	} {
		if i, k, ok := Clash(texts...); i != 0 || k != 0 || ok {
			t.Fatalf("Clash of %d texts: %d, %d, %v", len(texts), i, k, ok)
		}
	}
}

// lengthDigest is a digest by a text's length alone: unlike texts have the same one.
func lengthDigest(text []byte) [32]byte {
	return [32]byte{31: byte(len(text))}
}

// slowClash is a clash by the document's words, of all pairs.
func slowClash(digest func([]byte) [32]byte, texts ...[]byte) (int, int, bool) {
	for second := range texts {
		for first := range second {
			if digest(texts[first]) == digest(texts[second]) && !bytes.Equal(texts[first], texts[second]) {
				return first, second, true
			}
		}
	}
	return 0, 0, false
}

// P9.3: by a digest that is weak, the first pair by the second one, of these by the first one.
func TestClashOfWeakDigests(t *testing.T) {
	a, b, c, two := []byte{1}, []byte{2}, []byte{3}, []byte{1, 1}
	for _, x := range []struct {
		texts         [][]byte
		first, second int
		ok            bool
	}{
		{nil, 0, 0, false},
		{[][]byte{a}, 0, 0, false},
		{[][]byte{a, a, a}, 0, 0, false},
		{[][]byte{a, two, a, two, nil, {}}, 0, 0, false},
		{[][]byte{a, b}, 0, 1, true},
		{[][]byte{a, b, c}, 0, 1, true},
		{[][]byte{a, a, b}, 0, 2, true},
		{[][]byte{two, a, two, a, b, {2, 2}}, 1, 4, true},
		{[][]byte{two, a, {2, 2}, b}, 0, 2, true},
		{[][]byte{a, two, nil, b, {2, 2}}, 0, 3, true},
	} {
		if i, k, ok := clash(lengthDigest, x.texts...); i != x.first || k != x.second || ok != x.ok {
			t.Errorf("clash of %x: %d, %d, %v, want %d, %d, %v", x.texts, i, k, ok, x.first, x.second, x.ok)
		}
	}
}

// P9.3: as all pairs tell, of many weak texts.
func TestClashAsAllPairs(t *testing.T) {
	r := rand.New(rand.NewSource(3))
	found := 0
	for range 4000 {
		var texts [][]byte
		for range r.Intn(9) {
			texts = append(texts, bytes.Repeat([]byte{byte(r.Intn(2) * r.Intn(2))}, r.Intn(8)))
		}
		i, k, ok := clash(lengthDigest, texts...)
		wantI, wantK, want := slowClash(lengthDigest, texts...)
		if i != wantI || k != wantK || ok != want {
			t.Fatalf("clash of %x: %d, %d, %v, want %d, %d, %v", texts, i, k, ok, wantI, wantK, want)
		}
		if ok {
			found++
		}
	}
	if found < 500 || found > 3500 {
		t.Fatalf("%d clashes tell too little", found)
	}
}

// R4: no call writes into what it was handed, or behind it, or keeps it.
func TestArgumentsStay(t *testing.T) {
	var book Book
	key := risingKey()
	long := append(page(1), 9, 9, 9)
	p, was := long[:256], bytes.Clone(long)
	sealed, r := wantHide(t, &book, key, 5, 1, 7, p)
	longSealed := append(bytes.Clone(sealed), 9, 9, 9)
	wantOpen(t, &book, key, r, 7, longSealed[:256], p)
	longText := append(text(50, 1), 9, 9, 9)
	book.Digest(longText[:50])
	longLaid := append(Lay(r), 9, 9, 9)
	if got, e := Parse(longLaid[:37]); got != r || e != api.OK {
		t.Fatalf("Parse: %+v, %v", got, e)
	}
	texts := [][]byte{page(1), page(2), nil}
	Clash(texts[:2]...)
	for i, b := range [][2][]byte{
		{long, was}, {longSealed, append(bytes.Clone(sealed), 9, 9, 9)}, {longText, append(text(50, 1), 9, 9, 9)},
		{longLaid, append(Lay(r), 9, 9, 9)}, {texts[0], page(1)}, {texts[1], page(2)}, {texts[2], nil},
	} {
		if !bytes.Equal(b[0], b[1]) {
			t.Fatalf("the argument %d was turned: %x, want %x", i, b[0], b[1])
		}
	}
	want := book.Texts()
	clear(long)
	clear(longSealed)
	clear(longText)
	wantTexts(t, &book, want...)
}

// R4: what is answered is the caller's: to write into it turns nothing.
func TestAnswersAreTheCallers(t *testing.T) {
	var book Book
	key := risingKey()
	sealed, r := wantHide(t, &book, key, 5, 1, 7, page(1))
	wasSealed := bytes.Clone(sealed)
	clear(sealed)
	wantTexts(t, &book, wasSealed)
	opened, e := Open(&book, key, r, 7, wasSealed)
	if e != api.OK {
		t.Fatal(e)
	}
	clear(opened)
	wantOpen(t, &book, key, r, 7, wasSealed, page(1))
	wantTexts(t, &book, wasSealed, wasSealed, wasSealed)
	mine := book.Texts()
	for i := range mine {
		clear(append(mine[i], 1, 2, 3))
		clear(mine[i])
		for _, b := range mine[i+1:] {
			if !bytes.Equal(b, wasSealed) {
				t.Fatalf("two texts of one answer share memory: %x", b)
			}
		}
		wantTexts(t, &book, wasSealed, wasSealed, wasSealed)
	}
	clear(append(mine, nil, nil))
	mine = book.Texts()
	book.Digest([]byte{1})
	if len(mine) != 3 {
		t.Fatalf("a text came into an answer: %x", mine)
	}
	wantTexts(t, &book, wasSealed, wasSealed, wasSealed, []byte{1})
	laid := Lay(r)
	clear(append(laid, 1))
	if got, e := Parse(Lay(r)); got != r || e != api.OK {
		t.Fatalf("Parse: %+v, %v", got, e)
	}
}

// R3: books share nothing.
func TestBooksAreTheirOwn(t *testing.T) {
	var one, two Book
	one.Digest([]byte{1})
	wantTexts(t, &two)
	two.Digest([]byte{2})
	one.Digest([]byte{3})
	wantTexts(t, &one, []byte{1}, []byte{3})
	wantTexts(t, &two, []byte{2})
}
