package head

import (
	"bytes"
	"encoding/binary"
	"encoding/hex"
	"math"
	"math/rand"
	"slices"
	"strings"
	"testing"

	"carling/api"
	"carling/wrap"
)

// Where a head's parts stand in its bytes.
const (
	atMagic   = 0
	atVersion = 4
	atPages   = 5
	atSalt    = 7
	atRounds  = 23
	atKey     = 27
	atCheck   = 59
	atLabel   = 91
	atSum     = 116
	atRest    = 120
)

// part is n bytes that tell k and their places, none of them 0.
func part(n, k int) []byte {
	b := make([]byte, n)
	for i := range b {
		b[i] = byte((i*7+k*31)%251 + 1)
	}
	return b
}

// full is a head no byte of which is 0, but the upper ones of its pages and rounds; no two of its parts are the same.
func full() Head {
	return Head{
		Version: 2, Pages: 201,
		Wrapped: wrap.Wrapped{Salt: [16]byte(part(16, 1)), Rounds: 93, Key: [32]byte(part(32, 2)), Check: [32]byte(part(32, 3))},
		Label:   "a label that has 24 bytes"[:24],
	}
}

// least is the head with the least of everything.
func least() Head {
	return Head{Version: 1, Pages: 1, Wrapped: wrap.Wrapped{Rounds: 1}}
}

func turned(h Head, turn func(*Head)) Head {
	turn(&h)
	return h
}

// labels are labels of all lengths, with any bytes.
func labels() []string {
	l := []string{"\x00", "\x00\x00\x00", "a\x00", "\x00a", "größe", "\xff\xfe", strings.Repeat("\x00", 24), strings.Repeat("\xff", 24), strings.Repeat("\x00", 23) + "x", "CARL", "a/b", " "}
	for n := range 25 {
		l = append(l, string(part(n, n)))
	}
	return l
}

// edges are heads at the edges of what may be.
func edges() []Head {
	var l []Head
	for _, h := range []Head{full(), least()} {
		for _, version := range []int{1, 2} {
			h.Version = version
			l = append(l, h)
			for _, pages := range []int{1, 2, 127, 128, 215, 216} {
				l = append(l, turned(h, func(h *Head) { h.Pages = pages }))
			}
			for _, rounds := range []int{1, 2, 99, 100} {
				l = append(l, turned(h, func(h *Head) { h.Wrapped.Rounds = rounds }))
			}
			for _, label := range labels() {
				l = append(l, turned(h, func(h *Head) { h.Label = label }))
			}
			l = append(l, turned(h, func(h *Head) { h.Wrapped = wrap.Wrapped{Rounds: 1} }))
		}
	}
	return l
}

// noHeads are none: by one part each, and by several.
func noHeads() []Head {
	var l []Head
	for _, h := range []Head{full(), least()} {
		for _, version := range []int{math.MinInt, -256 + 1, -2, -1, 0, 3, 4, 255, 256 + 1, 256 + 2, 1<<32 + 1, 1<<32 + 2, math.MaxInt} {
			l = append(l, turned(h, func(h *Head) { h.Version = version }))
		}
		for _, pages := range []int{math.MinInt, -1<<16 + 1, -216, -1, 0, 217, 218, 255, 256, 1<<16 + 1, 1<<32 + 216, math.MaxInt} {
			l = append(l, turned(h, func(h *Head) { h.Pages = pages }))
		}
		for _, rounds := range []int{math.MinInt, -1<<32 + 1, -100, -1, 0, 101, 102, 255, 256 + 1, 10000, 1 << 32, 1<<32 + 1, 1<<32 + 100, math.MaxInt} {
			l = append(l, turned(h, func(h *Head) { h.Wrapped.Rounds = rounds }))
		}
		for _, n := range []int{25, 26, 32, 255, 256, 256 + 3, 1 << 16} {
			l = append(l, turned(h, func(h *Head) { h.Label = string(part(n, n)) }), turned(h, func(h *Head) { h.Label = strings.Repeat("\x00", n) }))
		}
	}
	return append(l, Head{}, Head{Version: 3, Pages: 217, Wrapped: wrap.Wrapped{Rounds: 101}, Label: string(part(25, 1))})
}

// anyHead is a head of r's numbers.
func anyHead(r *rand.Rand) Head {
	h := Head{Version: 1 + r.Intn(2), Pages: 1 + r.Intn(216), Wrapped: wrap.Wrapped{Rounds: 1 + r.Intn(100)}}
	r.Read(h.Wrapped.Salt[:])
	r.Read(h.Wrapped.Key[:])
	r.Read(h.Wrapped.Check[:])
	label := make([]byte, r.Intn(25))
	r.Read(label)
	h.Label = string(label)
	return h
}

// putSum puts the sum of the bytes ahead of it, as a head of version 2 has it.
func putSum(b []byte) {
	sum := uint32(0)
	for _, x := range b[:atSum] {
		sum += uint32(x)
	}
	binary.LittleEndian.PutUint32(b[atSum:], sum)
}

// referenceLay are a head's bytes, each part put where the document says.
func referenceLay(h Head) []byte {
	b := make([]byte, 256)
	copy(b[atMagic:], "CARL")
	b[atVersion] = byte(h.Version)
	binary.LittleEndian.PutUint16(b[atPages:], uint16(h.Pages))
	copy(b[atSalt:], h.Wrapped.Salt[:])
	binary.LittleEndian.PutUint32(b[atRounds:], uint32(h.Wrapped.Rounds))
	copy(b[atKey:], h.Wrapped.Key[:])
	copy(b[atCheck:], h.Wrapped.Check[:])
	b[atLabel] = byte(len(h.Label))
	copy(b[atLabel+1:atSum], h.Label)
	if h.Version == 2 {
		putSum(b)
	}
	return b
}

func wantLay(t *testing.T, h Head) []byte {
	t.Helper()
	b, e := Lay(h)
	if e != api.OK || !bytes.Equal(b, referenceLay(h)) {
		t.Fatalf("Lay(%+v): %x, %v, want %x", h, b, e, referenceLay(h))
	}
	return b
}

func wantParse(t *testing.T, b []byte, want Head) {
	t.Helper()
	if h, e := Parse(b); h != want || e != api.OK {
		t.Fatalf("Parse(%x): %+v, %v, want %+v", b, h, e, want)
	}
}

// wantNoParse fails if bytes are parsed, or are refused by another error; what is answered beside it is to be the zero one.
func wantNoParse(t *testing.T, b []byte, want api.Errno) {
	t.Helper()
	if h, e := Parse(b); h != (Head{}) || e != want {
		t.Fatalf("Parse(%x): %+v, %v, want %v", b, h, e, want)
	}
}

// put are h's bytes with others at a place, and, if h is of version 2, the right sum of them.
func put(t *testing.T, h Head, at int, l ...byte) []byte {
	t.Helper()
	b := wantLay(t, h)
	copy(b[at:], l)
	if h.Version == 2 {
		putSum(b)
	}
	return b
}

// Example 1: 256 bytes 0 tell no head.
func TestPublishedExample(t *testing.T) {
	wantNoParse(t, make([]byte, 256), api.ErrForm)
}

// P11.1: what may be: both versions, and all pages, rounds and labels up to their edges, with any salt, key and check.
func TestMay(t *testing.T) {
	for _, h := range edges() {
		if !May(h) {
			t.Errorf("%+v may not be", h)
		}
	}
	for _, h := range noHeads() {
		if May(h) {
			t.Errorf("%+v may be", h)
		}
	}
	for version := -3; version < 6; version++ {
		for pages := -3; pages < 300; pages++ {
			want := version >= 1 && version <= 2 && pages >= 1 && pages <= 216
			if got := May(Head{Version: version, Pages: pages, Wrapped: wrap.Wrapped{Rounds: 1}}); got != want {
				t.Errorf("May of the version %d and %d pages: %v", version, pages, got)
			}
		}
	}
	for rounds := -200; rounds < 400; rounds++ {
		for n := range 60 {
			want := rounds >= 1 && rounds <= 100 && n <= 24
			if got := May(Head{Version: 1, Pages: 5, Wrapped: wrap.Wrapped{Rounds: rounds}, Label: string(part(n, 1))}); got != want {
				t.Errorf("May of %d rounds and a label of %d bytes: %v", rounds, n, got)
			}
		}
	}
}

// P11.1: a head's bytes, written out, of both versions.
func TestLayWrittenOut(t *testing.T) {
	h := full()
	want := []byte{'C', 'A', 'R', 'L', 2, 201, 0}
	want = append(want, h.Wrapped.Salt[:]...)
	want = append(want, 93, 0, 0, 0)
	want = append(want, h.Wrapped.Key[:]...)
	want = append(want, h.Wrapped.Check[:]...)
	want = append(want, 24)
	want = append(want, "a label that has 24 byte"...)
	sum := 0
	for _, x := range want {
		sum += int(x)
	}
	want = append(want, byte(sum), byte(sum>>8), 0, 0)
	want = append(want, make([]byte, 136)...)
	if b, e := Lay(h); e != api.OK || !bytes.Equal(b, want) || len(b) != 256 {
		t.Errorf("Lay: %x, %v, want %x", b, e, want)
	}
	h.Version, want[4] = 1, 1
	copy(want[116:], make([]byte, 4))
	if b, e := Lay(h); e != api.OK || !bytes.Equal(b, want) {
		t.Errorf("Lay of version 1: %x, %v, want %x", b, e, want)
	}
	want = append([]byte{'C', 'A', 'R', 'L', 1, 1}, make([]byte, 250)...)
	want[23] = 1
	if b, e := Lay(least()); e != api.OK || !bytes.Equal(b, want) {
		t.Errorf("Lay of the least one: %x, %v", b, e)
	}
}

// P11.1, P11.2: heads that another program made, with the salt 0 to 15 and a master key wrapped by "pass".
func TestHeadsOfOthers(t *testing.T) {
	for _, c := range []struct {
		version, pages, rounds int
		label, want            string
	}{
		{1, 1, 1, "", "4341524c010100000102030405060708090a0b0c0d0e0f01000000cd7bafb97ea27dbad7d0d71b2c8e82233e2c87c400bdd18df28f3226b6220c9e51a39fb8a0004de3bd55629f277cb8f5393ecac597cb7fbe05114ce1ad200ef4"},
		{1, 216, 7, "disk", "4341524c01d800000102030405060708090a0b0c0d0e0f07000000e088c8cb5bba241ad344858dbc3d816d64064153b7e96f969c7e9e8de6667de64e3d38a61fbd4d3f0d4481423f4db96ac2d45ef46ee670e5798ba4bd01e407fa046469736b"},
		{2, 200, 100, "größe", "4341524c02c800000102030405060708090a0b0c0d0e0f640000000afc256e58fed52843b2669f74d75e761761f962ffecedcb34e34cba270289cc1780068a21617366fff2d3a065e2b55637882b5fc6a335a83a70410686ead0b9076772c3b6c39f650000000000000000000000000000000000af27"},
		{2, 216, 2, strings.Repeat("\xff", 24), "4341524c02d800000102030405060708090a0b0c0d0e0f0200000026856927fddbe591917fa90323cef6fc1d310a86e2ab5f6f3e0d610f5ee140f0900be0663a8a27de6021434f17c77a53176ba7f35f2245ee06b3b704185776f618ffffffffffffffffffffffffffffffffffffffffffffffff8837"},
	} {
		b, err := hex.DecodeString(c.want)
		if err != nil {
			t.Fatal(err)
		}
		b = append(b, make([]byte, 256-len(b))...)
		var salt [16]byte
		var master [32]byte
		for i := range master {
			master[i] = byte(i)
		}
		copy(salt[:], master[:])
		w, e := wrap.Wrap([]byte("pass"), salt, c.rounds, master)
		if e != api.OK {
			t.Fatal(e)
		}
		h := Head{Version: c.version, Pages: c.pages, Wrapped: w, Label: c.label}
		if got, e := Lay(h); e != api.OK || !bytes.Equal(got, b) {
			t.Errorf("Lay(%+v): %x, %v, want %x", h, got, e, b)
		}
		wantParse(t, b, h)
	}
}

// P11.1, P11.3: what is laid has every part in its place, and is parsed.
func TestLayAndParse(t *testing.T) {
	for _, h := range edges() {
		wantParse(t, wantLay(t, h), h)
	}
	for pages := 1; pages <= 216; pages++ {
		for _, h := range []Head{full(), least()} {
			h.Pages, h.Wrapped.Rounds = pages, 1+pages%100
			wantParse(t, wantLay(t, h), h)
		}
	}
	r := rand.New(rand.NewSource(11))
	for range 20000 {
		h := anyHead(r)
		wantParse(t, wantLay(t, h), h)
	}
}

// P11.1: each part by itself is laid: no two heads have the same bytes.
func TestPartsAreToldApart(t *testing.T) {
	var all [][]byte
	for _, turn := range []func(*Head){
		func(h *Head) {},
		func(h *Head) { h.Version = 1 },
		func(h *Head) { h.Pages-- },
		func(h *Head) { h.Wrapped.Rounds-- },
		func(h *Head) { h.Wrapped.Salt[0]-- },
		func(h *Head) { h.Wrapped.Salt[15]-- },
		func(h *Head) { h.Wrapped.Key[0]-- },
		func(h *Head) { h.Wrapped.Key[31]-- },
		func(h *Head) { h.Wrapped.Check[0]-- },
		func(h *Head) { h.Wrapped.Check[31]-- },
		func(h *Head) { h.Wrapped.Key, h.Wrapped.Check = h.Wrapped.Check, h.Wrapped.Key },
		func(h *Head) { h.Label = "" },
		func(h *Head) { h.Label = "\x00" },
		func(h *Head) { h.Label = "\x00\x00" },
		func(h *Head) { h.Label = h.Label[:23] },
		func(h *Head) { h.Label = h.Label[:23] + "\x00" },
		func(h *Head) { h.Label = h.Label[1:] },
	} {
		h := turned(full(), turn)
		b := wantLay(t, h)
		wantParse(t, b, h)
		for _, other := range all {
			if bytes.Equal(b, other) {
				t.Errorf("two heads have the bytes %x", b)
			}
		}
		all = append(all, b)
	}
}

// P11.1: what may not be is not laid.
func TestLayRefuses(t *testing.T) {
	for _, h := range noHeads() {
		if b, e := Lay(h); len(b) != 0 || e != api.ErrArg {
			t.Errorf("Lay(%+v): %x, %v", h, b, e)
		}
	}
}

// P11.2: fewer bytes than 256, and more, are ErrArg, whatever they tell.
func TestParseOfOtherSizes(t *testing.T) {
	wantNoParse(t, nil, api.ErrArg)
	for n := range 600 {
		if n == 256 {
			continue
		}
		for _, b := range [][]byte{wantLay(t, full()), wantLay(t, least()), bytes.Repeat([]byte{255}, 256), make([]byte, 256), []byte("CARL\x03")} {
			wantNoParse(t, append(b, make([]byte, 600)...)[:n], api.ErrArg)
		}
	}
	twice := append(wantLay(t, full()), wantLay(t, least())...)
	wantNoParse(t, twice, api.ErrArg)
	wantParse(t, twice[:256], full())
	wantParse(t, twice[256:], least())
}

// P11.2: bytes that do not begin with CARL are ErrForm, whatever version they tell.
func TestParseOfAnotherBeginning(t *testing.T) {
	for _, h := range []Head{full(), least()} {
		for at := range 4 {
			for by := 1; by < 256; by++ {
				b := wantLay(t, h)
				b[at] += byte(by)
				if h.Version == 2 {
					putSum(b)
				}
				wantNoParse(t, b, api.ErrForm)
				b[atVersion] = byte(3 + by%200)
				wantNoParse(t, b, api.ErrForm)
			}
		}
		for _, s := range []string{"carl", "LRAC", "CAR\x00", "\x00CAR", "ARL\x02", "\x00\x00\x00\x00"} {
			wantNoParse(t, put(t, h, atMagic, []byte(s)...), api.ErrForm)
		}
	}
}

// P11.2: a version that is neither 1 nor 2 is ErrKind, whatever stands behind it.
func TestParseOfOtherVersions(t *testing.T) {
	for x := range 256 {
		if x == 1 || x == 2 {
			continue
		}
		wantNoParse(t, put(t, full(), atVersion, byte(x)), api.ErrKind)
		wantNoParse(t, put(t, least(), atVersion, byte(x)), api.ErrKind)
		for _, rest := range []byte{0, 1, 255} {
			wantNoParse(t, append([]byte{'C', 'A', 'R', 'L', byte(x)}, bytes.Repeat([]byte{rest}, 251)...), api.ErrKind)
		}
	}
	for _, version := range []byte{1, 2} {
		for _, rest := range []byte{0, 1, 255} {
			wantNoParse(t, append([]byte{'C', 'A', 'R', 'L', version}, bytes.Repeat([]byte{rest}, 251)...), api.ErrForm)
		}
	}
}

// P11.2: pages and rounds that may not be are ErrForm, with a sum that is right, too.
func TestParseOfOtherNumbers(t *testing.T) {
	for _, h := range []Head{full(), least(), turned(full(), func(h *Head) { h.Version = 1 }), turned(least(), func(h *Head) { h.Version = 2 })} {
		for n := range 1 << 16 {
			pages := put(t, h, atPages, byte(n), byte(n>>8))
			if n >= 1 && n <= 216 {
				wantParse(t, pages, turned(h, func(h *Head) { h.Pages = n }))
			} else {
				wantNoParse(t, pages, api.ErrForm)
			}
			rounds := put(t, h, atRounds, byte(n), byte(n>>8))
			if n >= 1 && n <= 100 {
				wantParse(t, rounds, turned(h, func(h *Head) { h.Wrapped.Rounds = n }))
			} else {
				wantNoParse(t, rounds, api.ErrForm)
			}
		}
		for _, n := range []uint32{1<<16 + 1, 1<<16 + 100, 1<<24 + 1, 1 << 31, 1<<31 + 1, math.MaxUint32} {
			wantNoParse(t, put(t, h, atRounds, binary.LittleEndian.AppendUint32(nil, n)...), api.ErrForm)
		}
	}
}

// P11.2: a label that has more bytes than its place, or one behind that is not 0, is ErrForm, with a sum that is right, too.
func TestParseOfOtherLabels(t *testing.T) {
	for _, version := range []int{1, 2} {
		h := turned(full(), func(h *Head) { h.Version = version })
		for n := range 256 {
			b := put(t, h, atLabel, byte(n)) // 24 bytes stand in the place, none of them 0
			if n == 24 {
				wantParse(t, b, h)
			} else {
				wantNoParse(t, b, api.ErrForm)
			}
			empty := put(t, turned(h, func(h *Head) { h.Label = "" }), atLabel, byte(n))
			if n <= 24 {
				wantParse(t, empty, turned(h, func(h *Head) { h.Label = strings.Repeat("\x00", n) }))
			} else {
				wantNoParse(t, empty, api.ErrForm)
			}
		}
		for n := range 24 {
			short := turned(h, func(h *Head) { h.Label = h.Label[:n] })
			for at := atLabel + 1 + n; at < atSum; at++ {
				wantNoParse(t, put(t, short, at, 1), api.ErrForm)
				wantNoParse(t, put(t, short, at, 255), api.ErrForm)
			}
		}
	}
}

// P11.2: a sum that is another one is ErrForm, and so is one of version 1, which has none.
func TestParseOfOtherSums(t *testing.T) {
	for _, h := range edges() {
		right := wantLay(t, h)
		for at := atSum; at < atRest; at++ {
			for _, by := range []byte{1, 2, 128, 255} {
				b := slices.Clone(right)
				b[at] += by
				wantNoParse(t, b, api.ErrForm)
			}
		}
		b := slices.Clone(right)
		if h.Version == 1 {
			putSum(b)
		} else {
			copy(b[atSum:], make([]byte, 4))
		}
		wantNoParse(t, b, api.ErrForm)
		b = slices.Clone(right)
		b[atVersion] = byte(3 - h.Version) // the sum is missing then, or there is one too many
		wantNoParse(t, b, api.ErrForm)
	}
	b := wantLay(t, full())
	binary.BigEndian.PutUint32(b[atSum:], binary.LittleEndian.Uint32(b[atSum:]))
	wantNoParse(t, b, api.ErrForm)
}

// P11.2: a byte behind a head that is not 0 is ErrForm.
func TestParseOfFilledRest(t *testing.T) {
	for _, h := range []Head{full(), least(), turned(full(), func(h *Head) { h.Version = 1 }), turned(least(), func(h *Head) { h.Version = 2 })} {
		for at := atRest; at < 256; at++ {
			for _, x := range []byte{1, 2, 128, 255} {
				b := wantLay(t, h)
				b[at] = x
				wantNoParse(t, b, api.ErrForm)
			}
		}
		wantNoParse(t, append(wantLay(t, h)[:atRest], bytes.Repeat([]byte{128}, 256-atRest)...), api.ErrForm)
	}
}

// P11.2, P11.3: of all bytes that are one turn from a head's, none of version 2 is parsed (the sum is another one); of version 1, those that are parsed are another head, and laid as the same bytes.
func TestTurnedBytes(t *testing.T) {
	for _, h := range []Head{full(), least(), turned(full(), func(h *Head) { h.Version, h.Label = 1, "disk" })} {
		for at := range 256 {
			for by := 1; by < 256; by++ {
				b := wantLay(t, h)
				b[at] += byte(by)
				got, e := Parse(b)
				if e != api.OK {
					if got != (Head{}) || e != api.ErrForm && (e != api.ErrKind || at != atVersion) {
						t.Fatalf("Parse(%x): %+v, %v", b, got, e)
					}
					continue
				}
				if h.Version == 2 || at < atPages || at >= atSum || got == h || !May(got) {
					t.Fatalf("%x is parsed as %+v", b, got)
				}
				if again := wantLay(t, got); !bytes.Equal(again, b) {
					t.Fatalf("%x is parsed, and laid as %x", b, again)
				}
			}
		}
	}
}

// P11.3: bytes of any kind that are parsed are laid as they were, and nothing else is refused than what tells no head.
func TestAnyBytes(t *testing.T) {
	r := rand.New(rand.NewSource(12))
	parsed := [3]int{}
	for range 60000 {
		b := referenceLay(anyHead(r))
		for range r.Intn(4) {
			b[r.Intn(256)] = byte(r.Intn(3))
		}
		b[atVersion] = byte(r.Intn(4))
		b[atLabel] = byte(r.Intn(28))
		if r.Intn(3) > 0 {
			clear(b[min(atLabel+1+int(b[atLabel]), atSum):])
		}
		if b[atVersion] == 2 && r.Intn(4) > 0 {
			putSum(b)
		}
		wantAny(t, b, &parsed)
	}
	if parsed[1] < 1000 || parsed[2] < 1000 {
		t.Errorf("%d were parsed", parsed)
	}
}

// wantAny fails if b is parsed though it tells no head, or is not though it tells one.
func wantAny(t *testing.T, b []byte, parsed *[3]int) {
	t.Helper()
	pages, rounds := binary.LittleEndian.Uint16(b[atPages:]), binary.LittleEndian.Uint32(b[atRounds:])
	label, size := b[atLabel+1:atSum], int(b[atLabel])
	summed := slices.Clone(b)
	clear(summed[atSum:])
	if b[atVersion] == 2 {
		putSum(summed)
	}
	switch {
	case string(b[:4]) != "CARL":
		wantNoParse(t, b, api.ErrForm)
	case b[atVersion] != 1 && b[atVersion] != 2:
		wantNoParse(t, b, api.ErrKind)
	case pages < 1 || pages > 216 || rounds < 1 || rounds > 100 || size > 24 || !bytes.Equal(label[size:], make([]byte, 24-size)) || !bytes.Equal(b, summed):
		wantNoParse(t, b, api.ErrForm)
	default:
		parsed[b[atVersion]]++
		h, e := Parse(b)
		if again, e2 := Lay(h); e != api.OK || e2 != api.OK || !bytes.Equal(again, b) || h.Label != string(label[:size]) {
			t.Fatalf("%x: %+v, %v, laid as %x, %v", b, h, e, again, e2)
		}
	}
}

// P11.2: a head of version 1 is the same one of version 2; its bytes are the same but the version and the sum.
func TestUpgrade(t *testing.T) {
	r := rand.New(rand.NewSource(13))
	l := edges()
	for range 2000 {
		l = append(l, anyHead(r))
	}
	for _, h := range l {
		up, e := Upgrade(h)
		if h.Version == 2 {
			if up != (Head{}) || e != api.ErrKind {
				t.Fatalf("Upgrade(%+v): %+v, %v", h, up, e)
			}
			continue
		}
		want := turned(h, func(h *Head) { h.Version = 2 })
		if up != want || e != api.OK {
			t.Fatalf("Upgrade(%+v): %+v, %v", h, up, e)
		}
		old, b := wantLay(t, h), wantLay(t, up)
		old[atVersion] = 2
		putSum(old)
		if !bytes.Equal(old, b) {
			t.Fatalf("an upgraded head has the bytes %x, want %x", b, old)
		}
		wantParse(t, b, want)
		if again, e := Upgrade(up); again != (Head{}) || e != api.ErrKind {
			t.Fatalf("Upgrade once more: %+v, %v", again, e)
		}
	}
}

// P11.2: what is no head is ErrArg, ahead of ErrKind.
func TestUpgradeRefuses(t *testing.T) {
	for _, h := range noHeads() {
		for _, version := range []int{h.Version, 1, 2} {
			h.Version = version
			if May(h) {
				continue
			}
			if up, e := Upgrade(h); up != (Head{}) || e != api.ErrArg {
				t.Errorf("Upgrade(%+v): %+v, %v", h, up, e)
			}
		}
	}
}

// P11.2: the sum of all bytes.
func TestSum(t *testing.T) {
	for _, c := range []struct {
		b    []byte
		want uint32
	}{
		{nil, 0},
		{[]byte{}, 0},
		{[]byte{0}, 0},
		{[]byte{1}, 1},
		{[]byte{255}, 255},
		{[]byte{255, 1}, 256},
		{[]byte{128, 128, 128}, 384},
		{[]byte("CARL"), 67 + 65 + 82 + 76},
		{bytes.Repeat([]byte{255}, 256), 65280},
		{bytes.Repeat([]byte{255}, 258), 65790},
		{make([]byte, 1000), 0},
	} {
		if n := Sum(c.b); n != c.want {
			t.Errorf("Sum(%x): %d, want %d", c.b, n, c.want)
		}
	}
	r := rand.New(rand.NewSource(14))
	for range 500 {
		b := make([]byte, r.Intn(3000))
		r.Read(b)
		want := 0
		for _, x := range b {
			want += int(x)
		}
		if n := Sum(b); n != uint32(want) {
			t.Fatalf("Sum of %d bytes: %d, want %d", len(b), n, want)
		}
	}
}

// P11.2: the sum is taken modulo 2^32, and no lesser number.
func TestSumOfMany(t *testing.T) {
	const n = 16843010 // of 255: 1<<32 + 254
	b := bytes.Repeat([]byte{255}, n)
	if got := Sum(b); got != 254 {
		t.Errorf("Sum: %d, want 254", got)
	}
	if got := Sum(b[:n-1]); got != math.MaxUint32 {
		t.Errorf("Sum: %d, want %d", got, uint32(math.MaxUint32))
	}
}

// R4: bytes that are handed in are not written, nor the room behind them, nor kept.
func TestBytesAreTheCallers(t *testing.T) {
	for _, h := range edges() {
		b := append(wantLay(t, h), 1, 2, 3)
		was := slices.Clone(b)
		got, e := Parse(b[:256])
		Sum(b[:256])
		if e != api.OK || !bytes.Equal(b, was) {
			t.Fatalf("Parse wrote into its bytes: %x, %v", b, e)
		}
		clear(b)
		if got != h {
			t.Fatalf("Parse kept its bytes: %+v", got)
		}
	}
}

// R3, R4: what is answered is the caller's: to write into it, or behind it, turns nothing else.
func TestAnswersAreTheCallers(t *testing.T) {
	for _, h := range edges() {
		first, second := wantLay(t, h), wantLay(t, h)
		clear(append(first, 1, 2, 3))
		clear(first)
		if !bytes.Equal(second, referenceLay(h)) {
			t.Fatal("two answers of Lay share their bytes")
		}
		wantParse(t, wantLay(t, h), h)
	}
}
