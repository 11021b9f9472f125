package pack

import (
	"bytes"
	"math"
	"slices"
	"testing"

	"carling/api"
)

// text is n bytes, none of them 0, of which no two neighbours are the same.
func text(n int) []byte {
	b := make([]byte, n)
	for i := range b {
		b[i] = byte(i*7%251 + 1)
	}
	return b
}

// edgeNumbers are numbers at both ends, ones at the edges of each size, and ones that tell where each byte stands.
func edgeNumbers() []uint64 {
	l := []uint64{0, 1, 2, 300, 0x0102030405060708, 0x8877665544332211, 0x5555555555555555, math.MaxUint64 - 1, math.MaxUint64}
	for bit := 8; bit < 64; bit += 8 {
		l = append(l, 1<<bit-2, 1<<bit-1, 1<<bit, 1<<bit+1)
	}
	for bit := range 64 {
		l = append(l, 1<<bit)
	}
	return l
}

// sizes are sizes that may be asked for, and how many bytes a number of each has.
func sizes() [][2]int {
	l := [][2]int{
		{math.MinInt, 1}, {-1 << 32, 1}, {-1<<32 + 2, 1}, {-8, 1}, {-1, 1}, {0, 1},
		{9, 8}, {10, 8}, {16, 8}, {256, 8}, {257, 8}, {1 << 32, 8}, {1<<32 + 1, 8}, {math.MaxInt, 8},
	}
	for n := 1; n <= 8; n++ {
		l = append(l, [2]int{n, n})
	}
	return l
}

// noPlaces are places that are none, and the place that a reader takes each as.
func noPlaces() [][2]int {
	return [][2]int{
		{math.MinInt, 1}, {-1 << 32, 1}, {-1<<32 + 2, 1}, {-255, 1}, {-1, 1}, {0, 1},
		{256, 255}, {257, 255}, {258, 255}, {512, 255}, {1 << 32, 255}, {1<<32 + 1, 255}, {math.MaxInt, 255},
	}
}

// referenceNum is a number's bytes, by division.
func referenceNum(n uint64, size int) []byte {
	var b []byte
	for range size {
		b = append(b, byte(n%256))
		n /= 256
	}
	return b
}

// lowest is what a number's lowest bytes tell, by taking away.
func lowest(n uint64, size int) uint64 {
	if size == 8 {
		return n
	}
	return n % (1 << (8 * size))
}

// referenceText is a text in its place.
func referenceText(s []byte, place int) []byte {
	b := append([]byte{byte(len(s))}, s...)
	for len(b) < place+1 {
		b = append(b, 0)
	}
	return b
}

// wantState fails if a reader's error, or how many bytes are left, are others.
func wantState(t *testing.T, what string, r *Reader, e api.Errno, left int) {
	t.Helper()
	if r.Err() != e || r.Left() != left {
		t.Fatalf("%s: %v, %d left; want %v, %d left", what, r.Err(), r.Left(), e, left)
	}
}

// wantDead fails if a reader answers anything but its error.
func wantDead(t *testing.T, what string, r *Reader, e api.Errno) {
	t.Helper()
	for range 2 {
		wantState(t, what, r, e, 0)
		for _, n := range []int{-1, 0, 1, 8, 255, math.MaxInt} {
			if x := r.Num(n, math.MaxUint64); x != 0 {
				t.Fatalf("%s: Num(%d) is %d", what, n, x)
			}
			if b := r.Text(n); len(b) != 0 {
				t.Fatalf("%s: Text(%d) is %x", what, n, b)
			}
			if b := r.Bytes(n); len(b) != 0 {
				t.Fatalf("%s: Bytes(%d) is %x", what, n, b)
			}
		}
		if got := r.Rest(); got != e {
			t.Fatalf("%s: Rest is %v, want %v", what, got, e)
		}
	}
}

// P5.1: the document's examples.
func TestPublishedExamples(t *testing.T) {
	if got := Num(nil, 300, 2); !bytes.Equal(got, []byte{44, 1}) {
		t.Errorf("Num of 300 by 2: %v", got)
	}
	if got, e := Text(nil, []byte("a"), 2); e != api.OK || !bytes.Equal(got, []byte{1, 97, 0}) {
		t.Errorf("Text of a in 2: %v, %v", got, e)
	}
}

// P5.1: every number by every size, the lowest byte first: what is above is left out.
func TestNumOfEverySize(t *testing.T) {
	for _, size := range sizes() {
		for _, n := range edgeNumbers() {
			if got, want := Num(nil, n, size[0]), referenceNum(n, size[1]); !bytes.Equal(got, want) {
				t.Errorf("Num(%#x) by %d: %x, want %x", n, size[0], got, want)
			}
		}
	}
	const n = 0x0807060504030201
	for size, want := range []string{"\x01", "\x01", "\x01\x02", "\x01\x02\x03", "\x01\x02\x03\x04", "\x01\x02\x03\x04\x05",
		"\x01\x02\x03\x04\x05\x06", "\x01\x02\x03\x04\x05\x06\x07", "\x01\x02\x03\x04\x05\x06\x07\x08", "\x01\x02\x03\x04\x05\x06\x07\x08"} {
		if got := Num(nil, n, size); string(got) != want {
			t.Errorf("Num by %d: %x, want %x", size, got, want)
		}
	}
}

// P5.1: a number, a text and bytes 0 stand behind the bytes that were there.
func TestWhatIsPutStandsBehind(t *testing.T) {
	for _, n := range []int{0, 1, 2, 7, 8, 9, 63, 255, 256, 1000} {
		for _, size := range sizes() {
			want := append(text(n), referenceNum(0x8877665544332211, size[1])...)
			if got := Num(text(n), 0x8877665544332211, size[0]); !bytes.Equal(got, want) {
				t.Errorf("Num by %d behind %d bytes: %x, want %x", size[0], n, got, want)
			}
		}
		for _, place := range []int{1, 2, 24, 255} {
			for _, s := range [][]byte{nil, text(1), text(place - 1), text(place)} {
				got, e := Text(text(n), s, place)
				if want := append(text(n), referenceText(s, place)...); e != api.OK || !bytes.Equal(got, want) {
					t.Errorf("Text of %d bytes in %d behind %d bytes: %x, %v, want %x", len(s), place, n, got, e, want)
				}
			}
		}
	}
}

// P5.1: every text's length in every place.
func TestTextInEveryPlace(t *testing.T) {
	for place := 1; place <= 255; place++ {
		for n := range place + 1 {
			got, e := Text(nil, text(n), place)
			if e != api.OK || !bytes.Equal(got, referenceText(text(n), place)) {
				t.Fatalf("Text of %d bytes in %d: %x, %v", n, place, got, e)
			}
		}
		for _, n := range []int{place + 1, place + 2, 255 + place, 256, 256 + place, 65536} {
			if n <= place {
				continue
			}
			if got, e := Text(text(3), text(n), place); e != api.ErrArg || len(got) != 0 {
				t.Fatalf("Text of %d bytes in %d: %x, %v, want %v", n, place, got, e, api.ErrArg)
			}
		}
	}
}

// P5.1: any bytes are a text's, 0 and 255, too.
func TestTextOfAnyBytes(t *testing.T) {
	for _, s := range []string{"\x00", "\x00\x00", "\xff", "a\x00", "\x00a", "a\x00b\x00", "\xff\xff\xff", "\xc3\xa4"} {
		for _, place := range []int{4, 5, 255} {
			got, e := Text([]byte("x"), []byte(s), place)
			if want := append([]byte("x"), referenceText([]byte(s), place)...); e != api.OK || !bytes.Equal(got, want) {
				t.Errorf("Text of %q in %d: %x, %v, want %x", s, place, got, e, want)
			}
		}
	}
}

// P5.1: no text stands in a place that is none, not even one of no bytes.
func TestTextRefusesPlaces(t *testing.T) {
	for _, place := range noPlaces() {
		for _, s := range [][]byte{nil, {}, text(1), text(255), text(256), text(257)} {
			for _, b := range [][]byte{nil, text(2)} {
				if got, e := Text(b, s, place[0]); e != api.ErrArg || len(got) != 0 {
					t.Errorf("Text of %d bytes in %d: %x, %v, want %v", len(s), place[0], got, e, api.ErrArg)
				}
			}
		}
	}
}

// P5.1: bytes are filled up with 0; those that fill the size by then stay.
func TestFill(t *testing.T) {
	for n := range 70 {
		for size := range 140 {
			got, e := Fill(text(n), size)
			if n > size {
				if e != api.ErrArg || len(got) != 0 {
					t.Fatalf("Fill of %d bytes up to %d: %x, %v, want %v", n, size, got, e, api.ErrArg)
				}
				continue
			}
			if e != api.OK || len(got) != size || !bytes.Equal(got[:n], text(n)) || !bytes.Equal(got[n:], make([]byte, size-n)) {
				t.Fatalf("Fill of %d bytes up to %d: %x, %v", n, size, got, e)
			}
		}
	}
	for _, size := range []int{255, 256, 257, 65536, 1 << 20} {
		if got, e := Fill([]byte{1}, size); e != api.OK || len(got) != size || got[0] != 1 || !bytes.Equal(got[1:], make([]byte, size-1)) {
			t.Errorf("Fill of a byte up to %d: %d bytes, %v", size, len(got), e)
		}
	}
}

// P5.1, R1: sizes below 0 are refused, and ones that no answer can have, too.
func TestFillRefusesSizes(t *testing.T) {
	for _, size := range []int{math.MinInt, -1 << 32, -256, -2, -1, 1 << 31, 1 << 32, 1 << 40, math.MaxInt - 1, math.MaxInt} {
		for _, b := range [][]byte{nil, {}, text(1), text(300)} {
			if got, e := Fill(b, size); e != api.ErrArg || len(got) != 0 {
				t.Errorf("Fill of %d bytes up to %d: %d bytes, %v, want %v", len(b), size, len(got), e, api.ErrArg)
			}
		}
	}
}

// P5.2: numbers of every size, up to the most that may be; the next byte is at its end.
func TestReadNum(t *testing.T) {
	for _, size := range sizes() {
		for _, x := range edgeNumbers() {
			want := lowest(x, size[1])
			for _, most := range []uint64{want, want + 1, math.MaxUint64} {
				if most < want {
					continue
				}
				r := Read(append(referenceNum(x, size[1]), 77, 88))
				if got := r.Num(size[0], most); got != want {
					t.Errorf("Num(%d, %#x) is %#x, want %#x", size[0], most, got, want)
				}
				wantState(t, "behind a number", r, api.OK, 2)
				if got := r.Bytes(2); !bytes.Equal(got, []byte{77, 88}) {
					t.Errorf("behind a number of %d: %x", size[0], got)
				}
			}
		}
	}
}

// P5.2: a number above the most is ErrForm, with nothing behind it.
func TestReadNumAboveMost(t *testing.T) {
	for _, size := range sizes() {
		for _, x := range edgeNumbers() {
			n := lowest(x, size[1])
			for _, most := range []uint64{0, n / 2, n - 1} {
				if most >= n {
					continue
				}
				for _, more := range []int{0, 1, 9} {
					r := Read(append(referenceNum(x, size[1]), text(more)...))
					if got := r.Num(size[0], most); got != 0 {
						t.Errorf("Num(%d, %#x) of %#x is %#x", size[0], most, n, got)
					}
					wantDead(t, "above the most", r, api.ErrForm)
				}
			}
		}
	}
}

// P5.2: fewer bytes than a number has are ErrEnd, whatever they are, and whatever the most is.
func TestReadNumOfFewerBytes(t *testing.T) {
	for _, size := range sizes() {
		for n := range size[1] {
			for _, b := range [][]byte{text(n), make([]byte, n), bytes.Repeat([]byte{255}, n)} {
				for _, most := range []uint64{0, 1, 255, math.MaxUint64} {
					r := Read(b)
					if got := r.Num(size[0], most); got != 0 {
						t.Errorf("Num(%d, %d) of %x is %d", size[0], most, b, got)
					}
					wantDead(t, "fewer bytes than a number has", r, api.ErrEnd)
				}
			}
		}
	}
}

// P5.2: texts of every length in every place; the next byte is behind the place.
func TestReadText(t *testing.T) {
	for place := 1; place <= 255; place++ {
		for n := range place + 1 {
			r := Read(append(referenceText(text(n), place), 77, 88))
			if got := r.Text(place); !bytes.Equal(got, text(n)) {
				t.Fatalf("Text(%d) is %x, want %x", place, got, text(n))
			}
			wantState(t, "behind a text", r, api.OK, 2)
			if got := r.Num(2, math.MaxUint64); got != 77+88*256 {
				t.Fatalf("behind a text in %d: %d", place, got)
			}
		}
	}
	for _, s := range []string{"\x00", "a\x00", "\x00a", "\xff\xff", "\x00\x00"} {
		if got := Read(referenceText([]byte(s), 2)).Text(2); string(got) != s {
			t.Errorf("Text of %q is %q", s, got)
		}
	}
}

// P5.2: a place below 1 is read as 1, and one above 255 as 255.
func TestReadTextOfNoPlace(t *testing.T) {
	for _, place := range noPlaces() {
		for n := range place[1] + 1 {
			r := Read(append(referenceText(text(n), place[1]), 77))
			if got := r.Text(place[0]); !bytes.Equal(got, text(n)) {
				t.Fatalf("Text(%d) is %x, want %x", place[0], got, text(n))
			}
			wantState(t, "behind a text", r, api.OK, 1)
		}
		r := Read(make([]byte, place[1]))
		if got := r.Text(place[0]); len(got) != 0 {
			t.Errorf("Text(%d) of fewer bytes is %x", place[0], got)
		}
		wantDead(t, "fewer bytes than a text's place", r, api.ErrEnd)
	}
}

// P5.2: fewer bytes than the place and 1 are ErrEnd, though the text, or its fault, is there by then.
func TestReadTextOfFewerBytes(t *testing.T) {
	for _, place := range []int{1, 2, 3, 24, 254, 255} {
		for n := range place + 1 {
			for _, b := range [][]byte{make([]byte, n), text(n), bytes.Repeat([]byte{255}, n), referenceText(nil, place)[:n], referenceText(text(1), place)[:n]} {
				r := Read(b)
				if got := r.Text(place); len(got) != 0 {
					t.Errorf("Text(%d) of %x is %x", place, b, got)
				}
				wantDead(t, "fewer bytes than a text's place", r, api.ErrEnd)
			}
		}
	}
}

// P5.2: more bytes than the place has are ErrForm.
func TestReadTextOfMoreThanItsPlace(t *testing.T) {
	for place := 1; place < 255; place++ {
		for n := place + 1; n <= 255; n++ {
			for _, more := range []int{0, 255 - place} {
				r := Read(append([]byte{byte(n)}, make([]byte, place+more)...))
				if got := r.Text(place); len(got) != 0 {
					t.Fatalf("Text(%d) of %d bytes is %x", place, n, got)
				}
				if r.Err() != api.ErrForm || r.Left() != 0 {
					t.Fatalf("Text(%d) of %d bytes: %v, %d left", place, n, r.Err(), r.Left())
				}
			}
		}
	}
	r := Read(append([]byte{3}, text(2)...))
	r.Text(2)
	wantDead(t, "more bytes than the place", r, api.ErrForm)
}

// P5.2: a byte behind a text, in its place, that is not 0 is ErrForm; one behind the place is nobody's.
func TestReadTextOfFilledPlace(t *testing.T) {
	for _, place := range []int{1, 2, 3, 24, 255} {
		for n := range place + 1 {
			for at := n; at < place; at++ {
				for _, x := range []byte{1, 2, 128, 255} {
					b := referenceText(text(n), place)
					b[1+at] = x
					r := Read(append(b, 0, 0))
					if got := r.Text(place); len(got) != 0 || r.Err() != api.ErrForm || r.Left() != 0 {
						t.Fatalf("Text(%d) of %d bytes, with %d behind at %d: %x, %v, %d left", place, n, x, at, got, r.Err(), r.Left())
					}
				}
			}
			r := Read(append(referenceText(text(n), place), 255))
			if got := r.Text(place); !bytes.Equal(got, text(n)) {
				t.Fatalf("Text(%d) of %d bytes, with 255 behind the place: %x", place, n, got)
			}
			wantState(t, "ahead of 255", r, api.OK, 1)
		}
	}
	r := Read([]byte{1, 97, 1, 0, 0})
	r.Text(2)
	wantDead(t, "a place that is filled with other bytes", r, api.ErrForm)
}

// P5.2: bytes come in order, as many as were asked for; below 0 there are none.
func TestReadBytes(t *testing.T) {
	for size := range 70 {
		for n := range size + 1 {
			r := Read(text(size))
			if got := r.Bytes(n); !bytes.Equal(got, text(size)[:n]) {
				t.Fatalf("Bytes(%d) of %d: %x", n, size, got)
			}
			wantState(t, "behind bytes", r, api.OK, size-n)
			if got := r.Bytes(size - n); !bytes.Equal(got, text(size)[n:]) {
				t.Fatalf("Bytes(%d) behind %d: %x", size-n, n, got)
			}
			wantState(t, "at the end", r, api.OK, 0)
		}
		for _, n := range []int{math.MinInt, -1 << 32, -1<<32 + 1, -2, -1, 0} {
			r := Read(text(size))
			if got := r.Bytes(n); len(got) != 0 {
				t.Errorf("Bytes(%d) of %d: %x", n, size, got)
			}
			wantState(t, "behind no bytes", r, api.OK, size)
		}
	}
}

// P5.2: fewer bytes than were asked for are ErrEnd.
func TestReadBytesOfFewer(t *testing.T) {
	for size := range 70 {
		for _, n := range []int{size + 1, size + 2, size + 256, 1 << 32, 1<<32 + size, math.MaxInt - 1, math.MaxInt} {
			r := Read(text(size))
			if got := r.Bytes(n); len(got) != 0 {
				t.Errorf("Bytes(%d) of %d: %x", n, size, got)
			}
			wantDead(t, "fewer bytes than asked for", r, api.ErrEnd)
		}
	}
}

// P5.2: Rest is OK, if all bytes that are left are 0; it takes none of them.
func TestRestOfZeros(t *testing.T) {
	for n := range 300 {
		r := Read(append([]byte{9, 9}, make([]byte, n)...))
		if got := r.Bytes(2); !bytes.Equal(got, []byte{9, 9}) {
			t.Fatalf("Bytes(2): %x", got)
		}
		for range 2 {
			if e := r.Rest(); e != api.OK {
				t.Fatalf("Rest of %d zeros: %v", n, e)
			}
			wantState(t, "behind Rest", r, api.OK, n)
		}
		if got := r.Bytes(n); !bytes.Equal(got, make([]byte, n)) || r.Rest() != api.OK {
			t.Fatalf("%d zeros behind Rest: %x, %v", n, got, r.Rest())
		}
	}
}

// P5.2: one byte that is left and not 0, at any place, is ErrForm, and the reader's error then.
func TestRestOfOthers(t *testing.T) {
	for n := 1; n < 70; n++ {
		for at := range n {
			for _, x := range []byte{1, 128, 255} {
				b := make([]byte, n)
				b[at] = x
				r := Read(b)
				if e := r.Rest(); e != api.ErrForm {
					t.Fatalf("Rest of %d bytes, with %d at %d: %v", n, x, at, e)
				}
				wantState(t, "behind Rest", r, api.ErrForm, 0)
				r = Read(b)
				r.Bytes(at)
				if e := r.Rest(); e != api.ErrForm {
					t.Fatalf("Rest of %d bytes, with %d at %d ahead: %v", n, x, at, e)
				}
				r = Read(b)
				r.Bytes(at + 1)
				if e := r.Rest(); e != api.OK {
					t.Fatalf("Rest behind %d, at %d of %d bytes: %v", x, at, n, e)
				}
			}
		}
	}
	for _, b := range [][]byte{{1, 255}, {128, 128}, {0, 7, 0}} {
		r := Read(b)
		r.Rest()
		wantDead(t, "behind Rest", r, api.ErrForm)
	}
}

// P5.2: the first error is kept, whatever comes behind it.
func TestFirstErrorIsKept(t *testing.T) {
	for _, x := range []struct {
		what string
		fail func(*Reader)
		want api.Errno
	}{
		{"bytes that are missing", func(r *Reader) { r.Bytes(11) }, api.ErrEnd},
		{"a number that is missing", func(r *Reader) { r.Bytes(4); r.Num(8, 0) }, api.ErrEnd},
		{"a text that is missing", func(r *Reader) { r.Text(10) }, api.ErrEnd},
		{"a number above the most", func(r *Reader) { r.Num(1, 0) }, api.ErrForm},
		{"a text of more than its place", func(r *Reader) { r.Bytes(1); r.Text(1) }, api.ErrForm},
		{"a text whose place is filled", func(r *Reader) { r.Text(9) }, api.ErrForm},
		{"bytes that are left", func(r *Reader) { r.Rest() }, api.ErrForm},
	} {
		r := Read(text(10))
		x.fail(r)
		wantDead(t, x.what, r, x.want)
		r.Bytes(math.MaxInt)
		r.Num(1, 0)
		r.Text(1)
		r.Rest()
		wantDead(t, x.what+", and others behind", r, x.want)
	}
}

// P5.2: a reader at the first byte; of no bytes, nil or empty, there is nothing, and no error till something is asked for.
func TestReadOfNothing(t *testing.T) {
	for _, b := range [][]byte{nil, {}} {
		r := Read(b)
		if r == nil {
			t.Fatal("Read is nil")
		}
		wantState(t, "no bytes", r, api.OK, 0)
		if got := r.Bytes(0); len(got) != 0 || r.Rest() != api.OK {
			t.Errorf("of no bytes: %x, %v", got, r.Rest())
		}
		wantState(t, "no bytes, none asked for", r, api.OK, 0)
		r.Num(1, 0)
		wantDead(t, "a number of no bytes", r, api.ErrEnd)
		r = Read(b)
		r.Text(1)
		wantDead(t, "a text of no bytes", r, api.ErrEnd)
	}
	for n := range 300 {
		wantState(t, "at the first byte", Read(text(n)), api.OK, n)
	}
}

// P5.2, R1: a nil reader tells ErrNil, and has nothing.
func TestNilReader(t *testing.T) {
	wantDead(t, "a nil reader", nil, api.ErrNil)
}

// R1: a reader that nobody made has no bytes, as one of nil.
func TestZeroReader(t *testing.T) {
	r := new(Reader)
	wantState(t, "the zero reader", r, api.OK, 0)
	if got := r.Bytes(0); len(got) != 0 || r.Rest() != api.OK {
		t.Errorf("of the zero reader: %x, %v", got, r.Rest())
	}
	r.Bytes(1)
	wantDead(t, "a byte of the zero reader", r, api.ErrEnd)
}

// P5.3: every number and text that is put, one behind the other, is read in that order, up to bytes 0.
func TestWhatIsPutIsRead(t *testing.T) {
	var b []byte
	places := []int{1, 2, 15, 24, 31, 200, 254, 255}
	for _, place := range places {
		for n := 0; n <= place; n++ {
			var e api.Errno
			if b, e = Text(b, text(n), place); e != api.OK {
				t.Fatalf("Text of %d bytes in %d: %v", n, place, e)
			}
		}
		for size := 1; size <= 8; size++ {
			for _, n := range edgeNumbers() {
				b = Num(b, n, size)
			}
		}
		b = append(b, text(place)...)
	}
	b, e := Fill(b, len(b)+100)
	if e != api.OK {
		t.Fatalf("Fill: %v", e)
	}
	r := Read(b)
	for _, place := range places {
		for n := 0; n <= place; n++ {
			if got := r.Text(place); !bytes.Equal(got, text(n)) {
				t.Fatalf("Text(%d): %x, want %x (%v)", place, got, text(n), r.Err())
			}
		}
		for size := 1; size <= 8; size++ {
			for _, n := range edgeNumbers() {
				if got, want := r.Num(size, lowest(n, size)), lowest(n, size); got != want {
					t.Fatalf("Num(%d): %#x, want %#x (%v)", size, got, want, r.Err())
				}
			}
		}
		if got := r.Bytes(place); !bytes.Equal(got, text(place)) {
			t.Fatalf("Bytes(%d): %x (%v)", place, got, r.Err())
		}
	}
	wantState(t, "behind all", r, api.OK, 100)
	if e := r.Rest(); e != api.OK {
		t.Errorf("Rest: %v", e)
	}
}

// P5.3: what is put of any bytes of a text is read.
func TestTextOfAnyBytesIsRead(t *testing.T) {
	for a := range 256 {
		for b := range 256 {
			s := []byte{byte(a), byte(b)}
			for n := range 3 {
				laid, e := Text(nil, s[:n], 2)
				r := Read(laid)
				if got := r.Text(2); e != api.OK || !bytes.Equal(got, s[:n]) || r.Err() != api.OK || r.Left() != 0 {
					t.Fatalf("Text of %x: %x, read as %x (%v)", s[:n], laid, got, r.Err())
				}
			}
		}
	}
}

// P5.4: of all lists of two and of three bytes, those alone are read that the text read is put as: as many as there are texts.
func TestNoTwoListsAreOneText(t *testing.T) {
	read := func(place int, b []byte) bool {
		r := Read(b)
		s := r.Text(place)
		if r.Err() != api.OK {
			return false
		}
		if again, e := Text(nil, s, place); e != api.OK || !bytes.Equal(again, b) {
			t.Fatalf("%x is read as %x, which is put as %x, %v", b, s, again, e)
		}
		return true
	}
	one, two := 0, 0
	for x := range 1 << 16 {
		if read(1, []byte{byte(x >> 8), byte(x)}) {
			one++
		}
		for _, n := range []byte{0, 1, 2, 3, 4, 128, 254, 255} {
			if read(2, []byte{n, byte(x >> 8), byte(x)}) {
				two++
			}
		}
	}
	if one != 1+256 || two != 1+256+65536 {
		t.Errorf("%d lists are read in places of 1, %d in places of 2", one, two)
	}
}

// P5.4: one byte more or less, anywhere in a place, is another text, or none.
func TestTurnedListsAreNotOneText(t *testing.T) {
	for _, place := range []int{1, 2, 15, 24, 31, 255} {
		for _, n := range []int{0, 1, place / 2, place - 1, place} {
			b := referenceText(text(n), place)
			for at := range b {
				for _, by := range []byte{1, 2, 127, 128, 255} {
					other := slices.Clone(b)
					other[at] += by
					r := Read(other)
					if got := r.Text(place); r.Err() == api.OK && bytes.Equal(got, text(n)) {
						t.Fatalf("%x and %x are both read as %x", b, other, got)
					}
				}
			}
		}
	}
}

// R4: lists that are handed in are not written, nor the room behind them.
func TestListsAreTheCallers(t *testing.T) {
	for _, n := range []int{0, 1, 2, 30, 255} {
		b, s := text(600), text(600)
		Num(b[:n], 0, 8)
		if _, e := Text(b[:n], s[:n], 255); e != api.OK {
			t.Fatalf("Text of %d bytes: %v", n, e)
		}
		if _, e := Fill(b[:n], 500); e != api.OK {
			t.Fatalf("Fill of %d bytes: %v", n, e)
		}
		r := Read(b[:n])
		r.Bytes(n / 2)
		r.Text(1)
		r.Rest()
		if !bytes.Equal(b, text(600)) || !bytes.Equal(s, text(600)) {
			t.Fatalf("lists of %d bytes were written", n)
		}
	}
}

// R4: what is put shares nothing with what was handed in, though nothing was put behind it.
func TestAnswersAreTheCallers(t *testing.T) {
	b := text(50)
	laid := Num(b[:20], 7, 3)
	textLaid, e1 := Text(b[:20], b[20:30], 10)
	filled, e2 := Fill(b, 50)
	if e1 != api.OK || e2 != api.OK {
		t.Fatal(e1, e2)
	}
	clear(laid)
	clear(textLaid)
	clear(filled)
	if !bytes.Equal(b, text(50)) {
		t.Fatal("to write into answers wrote into a list that was handed in")
	}
	laid = Num(b[:20], 7, 3)
	textLaid, _ = Text(b[:20], b[20:30], 10)
	filled, _ = Fill(b, 50)
	clear(b)
	if !bytes.Equal(laid[:20], text(20)) || !bytes.Equal(textLaid[:20], text(20)) || !bytes.Equal(textLaid[21:], text(50)[20:30]) || !bytes.Equal(filled, text(50)) {
		t.Fatal("to write into a list that was handed in wrote into answers")
	}
	first := Num(text(20), 1, 8)
	second, third := Num(first, 2, 8), Num(first, 3, 8)
	if second[28] != 2 || third[28] != 3 {
		t.Fatal("two answers behind one list share their bytes")
	}
}

// R4: a reader keeps no list, and hands out none of its own.
func TestReadersAreTheirOwn(t *testing.T) {
	b := slices.Concat(text(10), referenceText(text(3), 5), text(10))
	r, other := Read(b), Read(b)
	clear(b)
	first := r.Bytes(10)
	if !bytes.Equal(first, text(10)) {
		t.Fatalf("a reader kept the list: %x", first)
	}
	first = append(first, 9, 9, 9)
	clear(first)
	second := r.Text(5)
	if !bytes.Equal(second, text(3)) {
		t.Fatalf("to write into an answer turned the next one: %x", second)
	}
	second = append(second, 9, 9, 9, 9, 9)
	clear(second)
	if third := r.Bytes(10); !bytes.Equal(third, text(10)) {
		t.Fatalf("to write into a text turned what is behind it: %x", third)
	}
	wantState(t, "another reader of the list", other, api.OK, 26)
	if got := other.Bytes(10); !bytes.Equal(got, text(10)) {
		t.Fatalf("one reader turned another one: %x", got)
	}
}
