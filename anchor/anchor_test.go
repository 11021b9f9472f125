package anchor

import (
	"bytes"
	"encoding/binary"
	"math"
	"math/rand"
	"slices"
	"testing"

	"carling/api"
)

// Where an anchor's parts stand in its bytes.
const (
	atVersion   = 0
	atPages     = 1
	atEpoch     = 3
	atHeadPlace = 7
	atHead      = 8
	atRootPlace = 40
	atRootEpoch = 41
	atRoot      = 45
	atCommits   = 77
	atRest      = 85
)

// digest is 32 bytes that tell k and their places, none of them 0.
func digest(k int) [32]byte {
	var d [32]byte
	for i := range d {
		d[i] = byte((i*7+k*31)%255 + 1)
	}
	return d
}

// full is an anchor no byte of whose numbers is 0, but the upper one of its pages; no two of its parts are the same.
func full() Anchor {
	return Anchor{
		Version: 2, Pages: 201, Epoch: 0x99887766,
		HeadPlace: 1, Head: digest(1),
		RootPlace: 1, RootEpoch: 0x44332211, Root: digest(2),
		Commits: 0x8877665544332211,
	}
}

// edges are anchors at the edges of what may be.
func edges() []Anchor {
	l := []Anchor{full()}
	for _, version := range []int{1, 2} {
		for _, pages := range []int{1, 2, 5, 215, 216} {
			l = append(l, Anchor{Version: version, Pages: pages})
		}
	}
	for _, epochs := range [][2]uint32{{1, 0}, {1, 1}, {7, 6}, {255, 255}, {256, 255}, {1 << 16, 1<<16 - 1}, {math.MaxUint32, 0}, {math.MaxUint32, math.MaxUint32 - 1}, {math.MaxUint32, math.MaxUint32}} {
		l = append(l, Anchor{Version: 1, Pages: 5, Epoch: epochs[0], RootEpoch: epochs[1]})
	}
	for places := range 4 {
		l = append(l, Anchor{Version: 1, Pages: 5, HeadPlace: places & 1, RootPlace: places >> 1, Head: digest(3)})
	}
	for _, commits := range []uint64{1, 255, 256, 1 << 32, 1 << 63, math.MaxUint64 - 1, math.MaxUint64} {
		l = append(l, Anchor{Version: 2, Pages: 5, Root: digest(4), Commits: commits})
	}
	return l
}

// turned is the full anchor, with one part turned.
func turned(turn func(*Anchor)) Anchor {
	a := full()
	turn(&a)
	return a
}

// noAnchors are anchors that may not be, each for one reason alone; what is too great is often a number whose lowest bytes may be.
func noAnchors() []Anchor {
	l := []Anchor{{}}
	for _, n := range []int{math.MinInt, -1 << 32, -1<<32 + 1, -256 + 1, -2, -1, 3, 4, 255, 256, 257, 258, 1 << 16, 1<<16 + 1, 1 << 32, 1<<32 + 1, math.MaxInt} {
		l = append(l, turned(func(a *Anchor) { a.Version = n }),
			turned(func(a *Anchor) { a.HeadPlace = n }),
			turned(func(a *Anchor) { a.RootPlace = n }))
	}
	for _, n := range []int{math.MinInt, -1 << 32, -1<<32 + 1, -1<<16 + 1, -216, -1, 0, 217, 218, 255, 256, 257, 1 << 16, 1<<16 + 1, 1<<16 + 216, 1 << 32, 1<<32 + 1, math.MaxInt} {
		l = append(l, turned(func(a *Anchor) { a.Pages = n }))
	}
	for _, epochs := range [][2]uint32{{0, 1}, {0, 256}, {0, 1 << 31}, {0, math.MaxUint32}, {1, 2}, {6, 7}, {255, 256}, {256, 257}, {math.MaxUint32 - 1, math.MaxUint32}, {1 << 31, 1<<31 + 1}, {1<<31 - 1, 1 << 31}} {
		l = append(l, turned(func(a *Anchor) { a.Epoch, a.RootEpoch = epochs[0], epochs[1] }))
	}
	return append(l, turned(func(a *Anchor) { a.Version = 0 }), turned(func(a *Anchor) { a.HeadPlace = 2 }), turned(func(a *Anchor) { a.RootPlace = 2 }))
}

// referenceLay are an anchor's bytes, each part put where the document says.
func referenceLay(a Anchor) []byte {
	b := make([]byte, 128)
	b[atVersion] = byte(a.Version)
	binary.LittleEndian.PutUint16(b[atPages:], uint16(a.Pages))
	binary.LittleEndian.PutUint32(b[atEpoch:], a.Epoch)
	b[atHeadPlace] = byte(a.HeadPlace)
	copy(b[atHead:], a.Head[:])
	b[atRootPlace] = byte(a.RootPlace)
	binary.LittleEndian.PutUint32(b[atRootEpoch:], a.RootEpoch)
	copy(b[atRoot:], a.Root[:])
	binary.LittleEndian.PutUint64(b[atCommits:], a.Commits)
	return b
}

// anyAnchor is an anchor of r's numbers.
func anyAnchor(r *rand.Rand) Anchor {
	a := Anchor{
		Version: 1 + r.Intn(2), Pages: 1 + r.Intn(216), Epoch: r.Uint32() >> r.Intn(32),
		HeadPlace: r.Intn(2), RootPlace: r.Intn(2), Commits: r.Uint64() >> r.Intn(64),
	}
	a.RootEpoch = uint32(r.Int63n(int64(a.Epoch) + 1))
	r.Read(a.Head[:])
	r.Read(a.Root[:])
	return a
}

func wantLay(t *testing.T, a Anchor) []byte {
	t.Helper()
	b, e := Lay(a)
	if e != api.OK || !bytes.Equal(b, referenceLay(a)) {
		t.Fatalf("Lay(%+v): %x, %v, want %x", a, b, e, referenceLay(a))
	}
	return b
}

func wantParse(t *testing.T, b []byte, want Anchor) {
	t.Helper()
	if a, e := Parse(b); a != want || e != api.OK {
		t.Fatalf("Parse(%x): %+v, %v, want %+v", b, a, e, want)
	}
}

// wantNoParse fails if bytes are parsed, or are refused by another error; what is answered beside it is to be the zero one.
func wantNoParse(t *testing.T, b []byte, want api.Errno) {
	t.Helper()
	if a, e := Parse(b); a != (Anchor{}) || e != want {
		t.Fatalf("Parse(%x): %+v, %v, want %v", b, a, e, want)
	}
}

func wantSet(t *testing.T, r *Register, a Anchor) {
	t.Helper()
	if e := r.Set(a); e != api.OK {
		t.Fatalf("Set(%+v): %v", a, e)
	}
}

// wantHas fails if a register has another anchor, or was set with other epochs.
func wantHas(t *testing.T, r *Register, want Anchor, epochs ...uint32) {
	t.Helper()
	for range 2 {
		if a, e := r.Get(); a != want || e != api.OK {
			t.Fatalf("Get: %+v, %v, want %+v", a, e, want)
		}
		if b := r.Raw(); !bytes.Equal(b, referenceLay(want)) {
			t.Fatalf("Raw: %x, want %x", b, referenceLay(want))
		}
		if n := r.Count(); n != len(epochs) {
			t.Fatalf("Count: %d, want %d", n, len(epochs))
		}
		if l := r.Epochs(); !slices.Equal(l, epochs) {
			t.Fatalf("Epochs: %d, want %d", l, epochs)
		}
	}
}

// wantHasNone fails if a register has anything.
func wantHasNone(t *testing.T, r *Register, want api.Errno) {
	t.Helper()
	for range 2 {
		if a, e := r.Get(); a != (Anchor{}) || e != want {
			t.Fatalf("Get: %+v, %v, want %v", a, e, want)
		}
		if b, n, l := r.Raw(), r.Count(), r.Epochs(); len(b) != 0 || n != 0 || len(l) != 0 {
			t.Fatalf("of none: Raw %x, Count %d, Epochs %d", b, n, l)
		}
	}
}

// The document's example: an anchor of the version 3 is none.
func TestPublishedExample(t *testing.T) {
	a := Anchor{Version: 3, Pages: 5, Epoch: 7}
	if May(a) {
		t.Error("May")
	}
	if b, e := Lay(a); len(b) != 0 || e != api.ErrArg {
		t.Errorf("Lay: %x, %v", b, e)
	}
	wantNoParse(t, referenceLay(a), api.ErrForm)
	r := New()
	if e := r.Set(a); e != api.ErrArg {
		t.Errorf("Set: %v", e)
	}
	wantHasNone(t, r, api.ErrNone)
}

// P7.1: what may be: all versions, pages, places and epochs up to their edges, and all digests and commits.
func TestMay(t *testing.T) {
	for _, a := range edges() {
		if !May(a) {
			t.Errorf("%+v may not be", a)
		}
	}
	for _, a := range noAnchors() {
		if May(a) {
			t.Errorf("%+v may be", a)
		}
	}
	for version := -3; version < 6; version++ {
		for pages := -3; pages < 300; pages++ {
			want := version >= 1 && version <= 2 && pages >= 1 && pages <= 216
			if got := May(Anchor{Version: version, Pages: pages}); got != want {
				t.Errorf("May of the version %d and %d pages: %v", version, pages, got)
			}
		}
	}
	for head := -2; head < 4; head++ {
		for root := -2; root < 4; root++ {
			want := head >= 0 && head <= 1 && root >= 0 && root <= 1
			if got := May(Anchor{Version: 1, Pages: 1, HeadPlace: head, RootPlace: root}); got != want {
				t.Errorf("May of the places %d and %d: %v", head, root, got)
			}
		}
	}
}

// P7.1: an anchor's bytes, written out.
func TestLayWrittenOut(t *testing.T) {
	a := full()
	want := []byte{2, 201, 0, 0x66, 0x77, 0x88, 0x99, 1}
	want = append(want, a.Head[:]...)
	want = append(want, 1, 0x11, 0x22, 0x33, 0x44)
	want = append(want, a.Root[:]...)
	want = append(want, 0x11, 0x22, 0x33, 0x44, 0x55, 0x66, 0x77, 0x88)
	want = append(want, make([]byte, 43)...)
	if b, e := Lay(a); e != api.OK || !bytes.Equal(b, want) || len(b) != 128 {
		t.Errorf("Lay: %x, %v, want %x", b, e, want)
	}
	least, e := Lay(Anchor{Version: 1, Pages: 1})
	if want := append([]byte{1, 1}, make([]byte, 126)...); e != api.OK || !bytes.Equal(least, want) {
		t.Errorf("Lay of the least one: %x, %v", least, e)
	}
}

// P7.1, P7.3: what is laid has every part in its place, and is parsed.
func TestLayAndParse(t *testing.T) {
	for _, a := range edges() {
		wantParse(t, wantLay(t, a), a)
	}
	r := rand.New(rand.NewSource(7))
	for range 20000 {
		a := anyAnchor(r)
		wantParse(t, wantLay(t, a), a)
	}
}

// P7.1: each part by itself is laid, and parsed: no two anchors have the same bytes.
func TestPartsAreToldApart(t *testing.T) {
	var all [][]byte
	for _, turn := range []func(*Anchor){
		func(a *Anchor) {},
		func(a *Anchor) { a.Version = 1 },
		func(a *Anchor) { a.Pages-- },
		func(a *Anchor) { a.Epoch-- },
		func(a *Anchor) { a.HeadPlace = 0 },
		func(a *Anchor) { a.Head[0]-- },
		func(a *Anchor) { a.Head[31]-- },
		func(a *Anchor) { a.Head, a.Root = a.Root, a.Head },
		func(a *Anchor) { a.RootPlace = 0 },
		func(a *Anchor) { a.RootEpoch-- },
		func(a *Anchor) { a.Root[0]-- },
		func(a *Anchor) { a.Root[31]-- },
		func(a *Anchor) { a.Commits-- },
		func(a *Anchor) { a.Commits -= 1 << 63 },
	} {
		a := turned(turn)
		b := wantLay(t, a)
		wantParse(t, b, a)
		for _, other := range all {
			if bytes.Equal(b, other) {
				t.Errorf("two anchors have the bytes %x", b)
			}
		}
		all = append(all, b)
	}
}

// P7.1: what may not be is not laid.
func TestLayRefuses(t *testing.T) {
	for _, a := range noAnchors() {
		if b, e := Lay(a); len(b) != 0 || e != api.ErrArg {
			t.Errorf("Lay(%+v): %x, %v", a, b, e)
		}
	}
}

// P7.1: fewer bytes than 128 are ErrEnd, whatever they tell.
func TestParseOfFewerBytes(t *testing.T) {
	wantNoParse(t, nil, api.ErrEnd)
	for n := range 128 {
		for _, b := range [][]byte{wantLay(t, full()), make([]byte, 128), bytes.Repeat([]byte{255}, 128)} {
			wantNoParse(t, b[:n], api.ErrEnd)
		}
	}
}

// P7.1: more bytes than 128 are ErrForm, though they are 0.
func TestParseOfMoreBytes(t *testing.T) {
	for n := 1; n <= 300; n++ {
		for _, x := range []byte{0, 1, 255} {
			wantNoParse(t, append(wantLay(t, full()), bytes.Repeat([]byte{x}, n)...), api.ErrForm)
			wantNoParse(t, bytes.Repeat([]byte{x}, 128+n), api.ErrForm)
		}
	}
	twice := append(wantLay(t, full()), wantLay(t, full())...)
	wantNoParse(t, twice, api.ErrForm)
	wantParse(t, twice[:128], full())
	wantParse(t, twice[128:], full())
}

// P7.1: bytes that tell no anchor are ErrForm: numbers below and above what may be, and an epoch of the root above the anchor's.
func TestParseOfNone(t *testing.T) {
	wantNoParse(t, make([]byte, 128), api.ErrForm)
	wantNoParse(t, bytes.Repeat([]byte{255}, 128), api.ErrForm)
	put := func(at int, l ...byte) []byte {
		b := wantLay(t, full())
		copy(b[at:], l)
		return b
	}
	for x := range 256 {
		if x != 1 && x != 2 {
			wantNoParse(t, put(atVersion, byte(x)), api.ErrForm)
		}
		if x > 1 {
			wantNoParse(t, put(atHeadPlace, byte(x)), api.ErrForm)
			wantNoParse(t, put(atRootPlace, byte(x)), api.ErrForm)
		}
	}
	for pages := range 1 << 16 {
		b := put(atPages, byte(pages), byte(pages>>8))
		if pages < 1 || pages > 216 {
			wantNoParse(t, b, api.ErrForm)
			continue
		}
		wantParse(t, b, turned(func(a *Anchor) { a.Pages = pages }))
	}
	wantNoParse(t, put(atRootEpoch, 0x67, 0x77, 0x88, 0x99), api.ErrForm)
	wantNoParse(t, put(atRootEpoch, 255, 255, 255, 255), api.ErrForm)
	wantNoParse(t, put(atEpoch, 0x10, 0x22, 0x33, 0x44), api.ErrForm)
	wantNoParse(t, put(atEpoch, 0, 0, 0, 0), api.ErrForm)
	wantParse(t, put(atRootEpoch, 0x66, 0x77, 0x88, 0x99), turned(func(a *Anchor) { a.RootEpoch = a.Epoch }))
	wantParse(t, put(atEpoch, 0x11, 0x22, 0x33, 0x44), turned(func(a *Anchor) { a.Epoch = a.RootEpoch }))
}

// P7.1: a byte behind an anchor that is not 0 is ErrForm.
func TestParseOfFilledRest(t *testing.T) {
	for _, a := range edges() {
		for at := atRest; at < 128; at++ {
			for _, x := range []byte{1, 2, 128, 255} {
				b := wantLay(t, a)
				b[at] = x
				wantNoParse(t, b, api.ErrForm)
			}
		}
	}
	wantNoParse(t, append(wantLay(t, full())[:atRest], bytes.Repeat([]byte{128}, 128-atRest)...), api.ErrForm)
}

// P7.3: of all bytes that are one turn from an anchor's, those that are parsed are another anchor, and laid as the same bytes.
func TestTurnedBytes(t *testing.T) {
	for _, a := range []Anchor{full(), {Version: 1, Pages: 1}, {Version: 1, Pages: 216, Epoch: math.MaxUint32, RootEpoch: math.MaxUint32}} {
		for at := range 128 {
			for by := 1; by < 256; by++ {
				b := wantLay(t, a)
				b[at] += byte(by)
				got, e := Parse(b)
				if e != api.OK {
					wantNoParse(t, b, api.ErrForm)
					continue
				}
				if at >= atRest || got == a || !May(got) {
					t.Fatalf("%x is parsed as %+v", b, got)
				}
				if again := wantLay(t, got); !bytes.Equal(again, b) {
					t.Fatalf("%x is parsed, and laid as %x", b, again)
				}
			}
		}
	}
}

// P7.3: bytes of any kind that are parsed are laid as they were, and nothing else is refused than what tells no anchor.
func TestAnyBytes(t *testing.T) {
	r := rand.New(rand.NewSource(8))
	parsed := 0
	for range 40000 {
		b := make([]byte, 128)
		r.Read(b[:atRest])
		b[atVersion] %= 4
		b[atPages+1] %= 2
		b[atHeadPlace] %= 3
		b[atRootPlace] %= 3
		b[atRest+r.Intn(128-atRest)] = byte(r.Intn(2))
		pages := int(binary.LittleEndian.Uint16(b[atPages:]))
		may := b[atVersion] >= 1 && b[atVersion] <= 2 && pages >= 1 && pages <= 216 && b[atHeadPlace] < 2 && b[atRootPlace] < 2 &&
			binary.LittleEndian.Uint32(b[atRootEpoch:]) <= binary.LittleEndian.Uint32(b[atEpoch:]) && bytes.Equal(b[atRest:], make([]byte, 128-atRest))
		if !may {
			wantNoParse(t, b, api.ErrForm)
			continue
		}
		parsed++
		a, e := Parse(b)
		if again, e2 := Lay(a); e != api.OK || e2 != api.OK || !bytes.Equal(again, b) {
			t.Fatalf("%x: %+v, %v, laid as %x, %v", b, a, e, again, e2)
		}
	}
	if parsed < 100 {
		t.Errorf("%d were parsed", parsed)
	}
}

// P7.2: a new register has none, and so has the zero one; both are set alike.
func TestNewRegister(t *testing.T) {
	if New() == nil {
		t.Fatal("New is nil")
	}
	for _, r := range []*Register{New(), new(Register), {}} {
		wantHasNone(t, r, api.ErrNone)
		wantSet(t, r, full())
		wantHas(t, r, full(), full().Epoch)
	}
}

// P7.2: a register has what was set last; it counts each time, and keeps all epochs, in order, the same ones and lesser ones, too.
func TestSet(t *testing.T) {
	r := New()
	var epochs []uint32
	for _, a := range append(edges(), edges()...) {
		wantSet(t, r, a)
		epochs = append(epochs, a.Epoch)
		wantHas(t, r, a, epochs...)
	}
	for range 3 {
		wantSet(t, r, full())
		epochs = append(epochs, full().Epoch)
		wantHas(t, r, full(), epochs...)
	}
	if !slices.Contains(epochs, 0) || !slices.Contains(epochs, math.MaxUint32) {
		t.Errorf("epochs of the edges: %d", epochs)
	}
}

// P7.2: the epochs are the anchors', not their roots'.
func TestEpochsAreTheAnchors(t *testing.T) {
	r := New()
	for _, epochs := range [][2]uint32{{9, 3}, {10, 9}, {4, 0}} {
		wantSet(t, r, Anchor{Version: 1, Pages: 5, Epoch: epochs[0], RootEpoch: epochs[1]})
	}
	wantHas(t, r, Anchor{Version: 1, Pages: 5, Epoch: 4}, 9, 10, 4)
}

// P7.2, R7: what is no anchor is not set, and nothing of it is told: of a register that has none, and of one that has one.
func TestSetRefuses(t *testing.T) {
	empty, r := New(), New()
	wantSet(t, r, Anchor{Version: 1, Pages: 5, Epoch: 7})
	wantSet(t, r, full())
	for _, a := range noAnchors() {
		for _, x := range []*Register{empty, r} {
			if e := x.Set(a); e != api.ErrArg {
				t.Fatalf("Set(%+v): %v", a, e)
			}
		}
		wantHasNone(t, empty, api.ErrNone)
		wantHas(t, r, full(), 7, full().Epoch)
	}
	wantSet(t, empty, full())
	wantHas(t, empty, full(), full().Epoch)
}

// P7.2, R1: a nil register tells ErrNil, and has nothing, whatever it is set to.
func TestNilRegister(t *testing.T) {
	var r *Register
	wantHasNone(t, r, api.ErrNil)
	for _, a := range append(edges(), noAnchors()...) {
		if e := r.Set(a); e != api.ErrNil {
			t.Errorf("Set(%+v) of a nil register: %v", a, e)
		}
	}
	wantHasNone(t, r, api.ErrNil)
}

// R3: two registers know nothing of each other.
func TestRegistersAreTheirOwn(t *testing.T) {
	one, other := New(), New()
	wantSet(t, one, full())
	wantHasNone(t, other, api.ErrNone)
	wantSet(t, other, Anchor{Version: 1, Pages: 5, Epoch: 7})
	wantHas(t, one, full(), full().Epoch)
	wantHas(t, other, Anchor{Version: 1, Pages: 5, Epoch: 7}, 7)
}

// R4: bytes that are handed in are not written, nor the room behind them, nor kept.
func TestBytesAreTheCallers(t *testing.T) {
	b := append(wantLay(t, full()), 1, 2, 3)
	was := slices.Clone(b)
	a, e := Parse(b[:128])
	if e != api.OK || !bytes.Equal(b, was) {
		t.Fatalf("Parse wrote into its bytes: %x, %v", b, e)
	}
	clear(b)
	if a != full() {
		t.Errorf("Parse kept its bytes: %+v", a)
	}
}

// R4: what is answered is the caller's: to write into it, or behind it, turns nothing else.
func TestAnswersAreTheCallers(t *testing.T) {
	r := New()
	wantSet(t, r, Anchor{Version: 1, Pages: 5, Epoch: 7})
	for n := 1; n < 9; n++ {
		wantSet(t, r, full())
		epochs := append([]uint32{7}, slices.Repeat([]uint32{full().Epoch}, n)...)
		raw, list := r.Raw(), r.Epochs()
		clear(append(raw, 1, 2, 3))
		clear(raw)
		clear(append(list, 1, 2, 3))
		clear(list)
		wantHas(t, r, full(), epochs...)
	}
	first, second := wantLay(t, full()), wantLay(t, full())
	clear(first)
	if !bytes.Equal(second, referenceLay(full())) {
		t.Error("two answers of Lay share their bytes")
	}
	early := r.Epochs()
	many := len(early)
	wantSet(t, r, Anchor{Version: 1, Pages: 5, Epoch: 9})
	if early = early[:many]; slices.Contains(early, 9) || len(early) != 9 {
		t.Errorf("an answer was turned by a later Set: %d", early)
	}
}
