package node

import (
	"bytes"
	"crypto/sha256"
	"encoding/binary"
	"encoding/hex"
	"math"
	"math/rand"
	"slices"
	"testing"

	"carling/api"
	"carling/seal"
)

// badMany and badPlaces are no numbers of references, and no places of a block.
var (
	badMany   = []int{math.MinInt, -1 << 32, -256 + 1, -6, -1, 0, 7, 8, 255, 256, 256 + 1, 1<<32 + 1, math.MaxInt}
	badPlaces = []int{math.MinInt, -1 << 32, -256, -255, -2, -1, 2, 3, 255, 256, 257, 1 << 32, 1<<32 + 1, math.MaxInt}
)

// filled are n bytes that tell k and their places, none of them 0.
func filled(n, k int) []byte {
	b := make([]byte, n)
	for i := range b {
		b[i] = byte((i*7+k*31)%251 + 1)
	}
	return b
}

// ref is the k-th reference of all that differ in each part.
func ref(k int) seal.Ref {
	return seal.Ref{Place: k % 2, Epoch: uint32(0x04030201 * (k + 1)), Digest: [32]byte(filled(32, k))}
}

func refs(many int) []seal.Ref {
	var l []seal.Ref
	for k := range many {
		l = append(l, ref(k))
	}
	return l
}

// anyRef is a reference of r's numbers.
func anyRef(r *rand.Rand) seal.Ref {
	x := seal.Ref{Place: r.Intn(2), Epoch: r.Uint32()}
	r.Read(x.Digest[:])
	return x
}

// edges are lists of references of all lengths: full ones, and zeros, and each part at its end.
func edges() [][]seal.Ref {
	var l [][]seal.Ref
	for many := 1; many <= 6; many++ {
		l = append(l, refs(many), make([]seal.Ref, many))
		for at := range many {
			for _, r := range []seal.Ref{{Place: 1}, {Epoch: 1}, {Epoch: math.MaxUint32}, {Epoch: 1 << 31}, {Digest: [32]byte{31: 1}}, {Digest: [32]byte(bytes.Repeat([]byte{255}, 32))}} {
				one, other := make([]seal.Ref, many), refs(many)
				one[at], other[at] = r, r
				l = append(l, one, other)
			}
		}
	}
	return l
}

// referencePage is the page of references, each part put where the document says, whatever they are.
func referencePage(refs []seal.Ref) []byte {
	b := make([]byte, 256)
	b[0] = byte(len(refs))
	for i, r := range refs {
		at := 1 + 37*i
		b[at] = byte(r.Place)
		binary.LittleEndian.PutUint32(b[at+1:], r.Epoch)
		copy(b[at+5:], r.Digest[:])
	}
	return b
}

// referenceParse are the references of a page of 256 bytes, and whether it has any.
func referenceParse(b []byte) ([]seal.Ref, bool) {
	many := int(b[0])
	if many < 1 || many > 6 {
		return nil, false
	}
	var l []seal.Ref
	for i := range many {
		at := 1 + 37*i
		l = append(l, seal.Ref{Place: int(b[at]), Epoch: binary.LittleEndian.Uint32(b[at+1:]), Digest: [32]byte(b[at+5 : at+37])})
		if b[at] > 1 {
			return nil, false
		}
	}
	return l, bytes.Equal(b[1+37*many:], make([]byte, 256-1-37*many))
}

func wantLay(t *testing.T, refs []seal.Ref) []byte {
	t.Helper()
	b, e := Lay(refs)
	if e != api.OK || !bytes.Equal(b, referencePage(refs)) {
		t.Fatalf("Lay(%v): %x, %v, want %x", refs, b, e, referencePage(refs))
	}
	return b
}

func wantNoLay(t *testing.T, refs []seal.Ref) {
	t.Helper()
	if b, e := Lay(refs); len(b) != 0 || e != api.ErrArg {
		t.Fatalf("Lay(%v): %x, %v", refs, b, e)
	}
}

// wantRefs fails unless the page has these references, however it is asked.
func wantRefs(t *testing.T, page []byte, want []seal.Ref) {
	t.Helper()
	for many := 1; many <= 6; many++ {
		if many != len(want) {
			wantNoParse(t, page, many, api.ErrCorrupt)
		} else if got, e := Parse(page, many); e != api.OK || !slices.Equal(got, want) {
			t.Fatalf("Parse(%x, %d): %v, %v, want %v", page, many, got, e, want)
		}
	}
	for at, r := range want {
		if got, e := Get(page, at); e != api.OK || got != r {
			t.Fatalf("Get(%x, %d): %v, %v, want %v", page, at, got, e, r)
		}
	}
}

// What is answered beside an error is to be the zero one.
func wantNoParse(t *testing.T, page []byte, many int, want api.Errno) {
	t.Helper()
	if l, e := Parse(page, many); len(l) != 0 || e != want {
		t.Fatalf("Parse(%x, %d): %v, %v, want %v", page, many, l, e, want)
	}
}

func wantNoGet(t *testing.T, page []byte, at int, want api.Errno) {
	t.Helper()
	if r, e := Get(page, at); r != (seal.Ref{}) || e != want {
		t.Fatalf("Get(%x, %d): %v, %v, want %v", page, at, r, e, want)
	}
}

func wantNoSet(t *testing.T, page []byte, at int, r seal.Ref, want api.Errno) {
	t.Helper()
	if b, e := Set(page, at, r); len(b) != 0 || e != want {
		t.Fatalf("Set(%x, %d, %v): %x, %v, want %v", page, at, r, b, e, want)
	}
}

// wantCorrupt fails unless a page of 256 bytes is refused as one that has no references, whatever is asked of it that may be.
func wantCorrupt(t *testing.T, page []byte) {
	t.Helper()
	for many := 1; many <= 6; many++ {
		wantNoParse(t, page, many, api.ErrCorrupt)
	}
	for _, at := range []int{math.MinInt, -1, 0, 1, 5, 6, 7, math.MaxInt} {
		wantNoGet(t, page, at, api.ErrCorrupt)
		wantNoSet(t, page, at, ref(3), api.ErrCorrupt)
		wantNoSet(t, page, at, seal.Ref{Place: 2}, api.ErrCorrupt)
	}
}

// with is a page with other bytes at a place.
func with(page []byte, at int, l ...byte) []byte {
	page = bytes.Clone(page)
	copy(page[at:], l)
	return page
}

// Example 1: a page of zeros is corrupt.
func TestPublishedExample(t *testing.T) {
	wantCorrupt(t, make([]byte, 256))
}

// P13.1, P13.2: pages that another program made, of digests of short texts.
func TestPagesOfOthers(t *testing.T) {
	digest := func(s string) [32]byte { return sha256.Sum256([]byte(s)) }
	six := []seal.Ref{}
	for i := range 6 {
		six = append(six, seal.Ref{Place: i % 2, Epoch: 1 << (5 * i), Digest: digest(string(rune(i)))})
	}
	for _, c := range []struct {
		refs []seal.Ref
		want string
	}{
		{[]seal.Ref{{Digest: digest("")}}, "010000000000e3b0c44298fc1c149afbf4c8996fb92427ae41e4649b934ca495991b7852b855"},
		{[]seal.Ref{{Place: 1, Epoch: math.MaxUint32, Digest: digest("a")}}, "0101ffffffffca978112ca1bbdcafac231b39a23dc4da786eff8147c4e72b9807785afee48bb"},
		{[]seal.Ref{{Epoch: 1, Digest: digest("0")}, {Place: 1, Epoch: 258, Digest: digest("1")}, {Epoch: 70000, Digest: digest("2")}}, "0300010000005feceb66ffc86f38d952786c6d696c79c2dbc239dd4e91b46729d73a27fb57e901020100006b86b273ff34fce19d6b804eff5a3f5747ada4eaa22f1d49c01e52ddb7875b4b0070110100d4735e3a265e16eee03f59718b9b5d03019c07d8b6c51f90da3a666eec13ab35"},
		{six, "0600010000006e340b9cffb37a989ca544e6bb780a2c78901d3fb33738768511a30617afa01d01200000004bf5122f344554c53bde2ebb8cd2b7e3d1600ad631c385a5d7cce23c7785459a0000040000dbc1b4c900ffe48d575b5da5c638040125f65db0fe3e24494b76ea986457d9860100800000084fed08b978af4d7d196a7446a86b58009e636b611db16211b65a9aadff29c50000001000e52d9c508c502347344d8c07ad91cbd6068afc75ff6292f062a09ca381c89e710100000002e77b9a9ae9e30b0dbdb6f510a264ef9de781501d7b6b92ae89eb059c5ab743db"},
	} {
		want, err := hex.DecodeString(c.want)
		if err != nil {
			t.Fatal(err)
		}
		want = append(want, make([]byte, 256-len(want))...)
		if b, e := Lay(c.refs); e != api.OK || !bytes.Equal(b, want) {
			t.Errorf("Lay(%v): %x, %v, want %x", c.refs, b, e, want)
		}
		wantRefs(t, want, c.refs)
	}
}

// P13.1, P13.3: what is laid has every part in its place, and is parsed.
func TestLayAndParse(t *testing.T) {
	for _, l := range edges() {
		wantRefs(t, wantLay(t, l), l)
	}
	r := rand.New(rand.NewSource(13))
	for range 3000 {
		var l []seal.Ref
		for range 1 + r.Intn(6) {
			l = append(l, anyRef(r))
		}
		wantRefs(t, wantLay(t, l), l)
	}
}

// P13.1: a page holds a layer 9's reference's own bytes.
func TestLayAsSeal(t *testing.T) {
	for _, l := range edges() {
		b := wantLay(t, l)
		for i, r := range l {
			if part := b[1+37*i : 38+37*i]; !bytes.Equal(part, seal.Lay(r)) {
				t.Errorf("reference %d of %v: %x", i, l, part)
			}
		}
	}
}

// P13.1: no reference, and more than 6, are ErrArg.
func TestLayRefusesNumbers(t *testing.T) {
	wantNoLay(t, nil)
	wantNoLay(t, []seal.Ref{})
	for _, many := range []int{7, 8, 12, 255, 256, 256 + 1, 256 + 6, 1 << 16} {
		wantNoLay(t, make([]seal.Ref, many))
		wantNoLay(t, refs(many))
	}
}

// P13.1: a place that is none is ErrArg, whichever reference has it.
func TestLayRefusesPlaces(t *testing.T) {
	for many := 1; many <= 6; many++ {
		for at := range many {
			for _, place := range badPlaces {
				l := refs(many)
				l[at].Place = place
				wantNoLay(t, l)
				l = make([]seal.Ref, many)
				l[at].Place = place
				wantNoLay(t, l)
			}
		}
	}
}

// P13.2: numbers below 1 and above 6 are ErrArg, whatever the page.
func TestParseRefusesNumbers(t *testing.T) {
	pages := [][]byte{nil, make([]byte, 256), bytes.Repeat([]byte{255}, 256), make([]byte, 255), make([]byte, 257)}
	for many := 1; many <= 6; many++ {
		pages = append(pages, wantLay(t, refs(many)))
	}
	for _, many := range badMany {
		for _, page := range pages {
			wantNoParse(t, page, many, api.ErrArg)
			if len(page) == 256 {
				wantNoParse(t, with(page, 0, byte(many)), many, api.ErrArg)
			}
		}
	}
}

// P13.2: fewer bytes than 256, and more, are ErrArg, whatever they tell.
func TestPagesOfOtherSizes(t *testing.T) {
	for n := range 600 {
		if n == 256 {
			continue
		}
		for _, start := range [][]byte{wantLay(t, refs(1)), wantLay(t, refs(6)), make([]byte, 256), bytes.Repeat([]byte{255}, 600)} {
			page := append(start, make([]byte, 600)...)[:n]
			for many := range 8 {
				wantNoParse(t, page, many, api.ErrArg)
			}
			for at := -1; at < 8; at++ {
				wantNoGet(t, page, at, api.ErrArg)
				wantNoSet(t, page, at, ref(2), api.ErrArg)
			}
		}
	}
	wantNoParse(t, nil, 1, api.ErrArg)
	wantNoGet(t, nil, 0, api.ErrArg)
	wantNoSet(t, nil, 0, ref(0), api.ErrArg)
}

// P13.2: a page whose count is another one's, or none, is corrupt: what stands behind must fit the count.
func TestOtherCounts(t *testing.T) {
	for many := 1; many <= 6; many++ {
		full, zeros := wantLay(t, refs(many)), wantLay(t, make([]seal.Ref, many))
		for x := range 256 {
			if x < 1 || x > 6 {
				wantCorrupt(t, with(full, 0, byte(x)))
				wantCorrupt(t, with(zeros, 0, byte(x)))
				continue
			}
			wantRefs(t, with(zeros, 0, byte(x)), make([]seal.Ref, x))
			if x < many {
				wantCorrupt(t, with(full, 0, byte(x)))
				continue
			}
			wantRefs(t, with(full, 0, byte(x)), append(refs(many), make([]seal.Ref, x-many)...))
		}
	}
}

// P13.2: a page with a place that is neither 0 nor 1 is corrupt, whichever reference has it.
func TestPlacesOfPages(t *testing.T) {
	for many := 1; many <= 6; many++ {
		for at := range many {
			for x := 2; x < 256; x++ {
				wantCorrupt(t, with(wantLay(t, refs(many)), 1+37*at, byte(x)))
				wantCorrupt(t, with(wantLay(t, make([]seal.Ref, many)), 1+37*at, byte(x)))
			}
		}
	}
}

// P13.2: a page with anything but 0 behind its references is corrupt.
func TestRestOfPages(t *testing.T) {
	for many := 1; many <= 6; many++ {
		page := wantLay(t, refs(many))
		for at := 1 + 37*many; at < 256; at++ {
			for _, x := range []byte{1, 2, 128, 255} {
				wantCorrupt(t, with(page, at, x))
			}
		}
	}
}

// P13.2, P13.3: pages of any bytes: those that are parsed are laid as the same page, all others are corrupt.
func TestAnyPages(t *testing.T) {
	r := rand.New(rand.NewSource(132))
	parsed, corrupt := 0, 0
	for range 20000 {
		var l []seal.Ref
		for range 1 + r.Intn(6) {
			l = append(l, anyRef(r))
		}
		page := wantLay(t, l)
		for range r.Intn(3) {
			page[r.Intn(256)] = byte(r.Intn(4))
		}
		if r.Intn(3) == 0 {
			page[0] = byte(r.Intn(8))
		}
		want, ok := referenceParse(page)
		if !ok {
			corrupt++
			wantCorrupt(t, page)
			continue
		}
		parsed++
		wantRefs(t, page, want)
		if again, e := Lay(want); e != api.OK || !bytes.Equal(again, page) {
			t.Fatalf("%x was laid as %x, %v", page, again, e)
		}
	}
	if parsed < 1000 || corrupt < 1000 {
		t.Errorf("%d parsed, %d corrupt", parsed, corrupt)
	}
}

// P13.2: places behind the last reference, and below 0, are ErrArg.
func TestPlacesThatAreNone(t *testing.T) {
	for many := 1; many <= 6; many++ {
		page := wantLay(t, refs(many))
		for _, at := range []int{math.MinInt, -1 << 32, -256, -6, -1, many, many + 1, 6, 7, 255, 256, 1 << 32, math.MaxInt} {
			wantNoGet(t, page, at, api.ErrArg)
			wantNoSet(t, page, at, ref(5), api.ErrArg)
			wantNoSet(t, page, at, seal.Ref{Place: 2}, api.ErrArg)
		}
	}
}

// P13.2: a page's reference is set, and no other one.
func TestSet(t *testing.T) {
	for _, l := range edges() {
		for at := range l {
			for _, r := range []seal.Ref{{}, {Place: 1}, {Epoch: math.MaxUint32}, ref(6), ref(7), l[at]} {
				want := slices.Clone(l)
				want[at] = r
				page, e := Set(wantLay(t, l), at, r)
				if e != api.OK || !bytes.Equal(page, referencePage(want)) {
					t.Fatalf("Set(%v, %d, %v): %x, %v", l, at, r, page, e)
				}
				wantRefs(t, page, want)
			}
		}
	}
}

// P13.2: a reference whose place is none is not set.
func TestSetRefusesPlaces(t *testing.T) {
	for many := 1; many <= 6; many++ {
		page := wantLay(t, refs(many))
		for at := range many {
			for _, place := range badPlaces {
				r := ref(5)
				r.Place = place
				wantNoSet(t, page, at, r, api.ErrArg)
			}
		}
	}
}

// P13.2: pages that are set again and again, against a list.
func TestManySets(t *testing.T) {
	r := rand.New(rand.NewSource(133))
	for many := 1; many <= 6; many++ {
		l := make([]seal.Ref, many)
		page := wantLay(t, l)
		for range 300 {
			at := r.Intn(many)
			l[at] = anyRef(r)
			next, e := Set(page, at, l[at])
			if e != api.OK {
				t.Fatal(e)
			}
			page = next
			wantRefs(t, page, l)
		}
	}
}

// R3, R4: no call writes into what it is handed, and what is answered is the caller's.
func TestMemory(t *testing.T) {
	for many := 1; many <= 6; many++ {
		l := append(refs(many), ref(8), ref(9))
		page := wantLay(t, l[:many])
		if !slices.Equal(l, append(refs(many), ref(8), ref(9))) {
			t.Fatal("Lay wrote into its list")
		}
		room := append(bytes.Clone(page), filled(50, 1)...)
		whole := bytes.Clone(room)
		first, _ := Parse(room[:256], many)
		second, _ := Parse(room[:256], many)
		set, _ := Set(room[:256], many-1, ref(7))
		_, _ = Get(room[:256], 0)
		if !bytes.Equal(room, whole) {
			t.Fatal("a call wrote into its page")
		}
		clear(first)
		clear(set)
		_ = append(first, ref(9))
		if !bytes.Equal(room, whole) || !slices.Equal(second, refs(many)) {
			t.Fatal("an answer shares memory")
		}
		clear(page)
		wantRefs(t, room[:256], refs(many))
		clear(room)
		if !slices.Equal(second, refs(many)) {
			t.Fatal("an answer is its argument's memory")
		}
	}
}
