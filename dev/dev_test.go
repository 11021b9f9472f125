package dev

import (
	"bytes"
	"math"
	"math/rand"
	"slices"
	"testing"

	"carling/api"
)

// fill is a block of bytes that tell k and their places, none of them 0.
func fill(k int) []byte {
	b := make([]byte, api.Block)
	for i := range b {
		b[i] = byte((i*7+k*31)%255 + 1)
	}
	return b
}

// made is a store of so many blocks.
func made(t *testing.T, blocks int) *Store {
	t.Helper()
	s, e := New(blocks)
	if e != api.OK || s == nil {
		t.Fatalf("New(%d): %v, %v", blocks, s, e)
	}
	return s
}

// filled is a store of so many blocks, the block n of which is fill(n), with nothing that waits.
func filled(t *testing.T, blocks int) *Store {
	t.Helper()
	s := made(t, blocks)
	for n := range blocks {
		wantWrite(t, s, n, fill(n))
	}
	if many := s.Flush(); many != blocks {
		t.Fatalf("Flush of %d: %d", blocks, many)
	}
	return s
}

func wantWrite(t *testing.T, s *Store, n int, b []byte) {
	t.Helper()
	if e := s.Write(n, b); e != api.OK {
		t.Fatalf("Write of the block %d: %v", n, e)
	}
}

func wantTamper(t *testing.T, s *Store, n, at int, b []byte) {
	t.Helper()
	if e := s.Tamper(n, at, b); e != api.OK {
		t.Fatalf("Tamper of %d bytes of the block %d at %d: %v", len(b), n, at, e)
	}
}

func wantPut(t *testing.T, s *Store, k int) {
	t.Helper()
	if got, e := s.Put(); got != k || e != api.OK {
		t.Fatalf("Put: %d, %v, want %d", got, e, k)
	}
}

func wantRestore(t *testing.T, s *Store, k int) {
	t.Helper()
	if e := s.Restore(k); e != api.OK {
		t.Fatalf("Restore of %d: %v", k, e)
	}
}

func wantRead(t *testing.T, s *Store, n int, want []byte) {
	t.Helper()
	if got, e := s.Read(n); e != api.OK || !bytes.Equal(got, want) {
		t.Fatalf("Read of the block %d: %x, %v, want %x", n, got, e, want)
	}
}

// wantStored fails if the store has other bytes of a block, without what waits.
func wantStored(t *testing.T, s *Store, n int, want []byte) {
	t.Helper()
	if got := s.Bytes()[n*api.Block : (n+1)*api.Block]; !bytes.Equal(got, want) {
		t.Fatalf("the store has of the block %d: %x, want %x", n, got, want)
	}
}

func wantWaiting(t *testing.T, s *Store, want ...int) {
	t.Helper()
	if got := s.Waiting(); !slices.Equal(got, want) {
		t.Fatalf("Waiting: %v, want %v", got, want)
	}
}

func wantTrace(t *testing.T, s *Store, want ...int) {
	t.Helper()
	if got := s.Trace(); !slices.Equal(got, want) {
		t.Fatalf("Trace: %v, want %v", got, want)
	}
}

// look is a copy of all that a store tells, but how many lie on its shelf.
type look struct {
	blocks, reads  []byte
	waiting, trace []int
}

func lookAt(s *Store) look {
	l := look{blocks: bytes.Clone(s.Bytes()), waiting: slices.Clone(s.Waiting()), trace: slices.Clone(s.Trace())}
	for n := range s.Len() {
		b, _ := s.Read(n)
		l.reads = append(l.reads, b...)
	}
	return l
}

func (l look) is(o look) bool {
	return bytes.Equal(l.blocks, o.blocks) && bytes.Equal(l.reads, o.reads) &&
		slices.Equal(l.waiting, o.waiting) && slices.Equal(l.trace, o.trace)
}

// noBlocks are numbers of blocks that a store of so many has not.
func noBlocks(blocks int) []int {
	return []int{math.MinInt, -1 << 32, -1<<32 + 1, -blocks, -2, -1, blocks, blocks + 1, 2 * blocks, 1024, 1 << 32, 1<<32 + 1, math.MaxInt - 1, math.MaxInt}
}

// The document's example.
func TestPublishedExample(t *testing.T) {
	for _, s := range []*Store{made(t, 2), filled(t, 2)} {
		was := s.Bytes()
		wantWrite(t, s, 0, fill(9))
		s.Crash(0, 0, 4)
		if !bytes.Equal(s.Bytes(), was) {
			t.Errorf("a write that was lost came: %x", s.Bytes())
		}
		wantRead(t, s, 0, was[:api.Block])
	}
}

// P6.1: a store has 1 to 1024 blocks, all 0.
func TestNew(t *testing.T) {
	for _, blocks := range []int{1, 2, 3, 6, 216, 1023, 1024} {
		s := made(t, blocks)
		if s.Len() != blocks {
			t.Errorf("Len of %d blocks: %d", blocks, s.Len())
		}
		if !bytes.Equal(s.Bytes(), make([]byte, 256*blocks)) {
			t.Errorf("%d blocks are not 0", blocks)
		}
		for n := range blocks {
			wantRead(t, s, n, make([]byte, 256))
		}
		wantWaiting(t, s)
		wantTrace(t, s)
	}
	for _, blocks := range []int{math.MinInt, -1 << 32, -1<<32 + 1, -1024, -1, 0, 1025, 1026, 2048, 65536, 1 << 32, 1<<32 + 1, 1 << 56, math.MaxInt} {
		if s, e := New(blocks); s != nil || e != api.ErrArg {
			t.Errorf("New(%d): %v, %v, want %v", blocks, s, e, api.ErrArg)
		}
	}
}

// P6.1, R7: blocks that there are not are neither read nor written, nor are writes that have not 256 bytes; nothing turns.
func TestReadAndWriteRefuse(t *testing.T) {
	for _, blocks := range []int{1, 2, 7} {
		s := filled(t, blocks)
		wantWrite(t, s, 0, fill(50))
		was := lookAt(s)
		for _, n := range noBlocks(blocks) {
			if b, e := s.Read(n); len(b) != 0 || e != api.ErrArg {
				t.Errorf("Read of the block %d of %d: %x, %v", n, blocks, b, e)
			}
			for _, b := range [][]byte{nil, fill(1), fill(1)[:255]} {
				if e := s.Write(n, b); e != api.ErrArg {
					t.Errorf("Write of %d bytes of the block %d of %d: %v", len(b), n, blocks, e)
				}
			}
		}
		for _, size := range []int{0, 1, 63, 64, 128, 255, 257, 512, 65536, 65536 + 256} {
			if e := s.Write(blocks-1, bytes.Repeat([]byte{3}, size)); e != api.ErrArg {
				t.Errorf("Write of %d bytes: %v", size, e)
			}
		}
		if e := s.Write(0, nil); e != api.ErrArg {
			t.Errorf("Write of nil: %v", e)
		}
		if !lookAt(s).is(was) {
			t.Error("a call that was refused turned the store")
		}
	}
}

// P6.1: what is written waits: it is read, the last one of each block, but the store has it when it comes.
func TestWritesWait(t *testing.T) {
	s := filled(t, 4)
	was := s.Bytes()
	for i, n := range []int{2, 0, 2, 3, 2, 0} {
		wantWrite(t, s, n, fill(10+i))
		wantRead(t, s, n, fill(10+i))
	}
	for n, want := range [][]byte{fill(15), fill(1), fill(14), fill(13)} {
		wantRead(t, s, n, want)
		wantStored(t, s, n, fill(n))
	}
	if !bytes.Equal(s.Bytes(), was) {
		t.Error("what waits is told by Bytes")
	}
	wantWaiting(t, s, 2, 0, 2, 3, 2, 0)
	wantWaiting(t, s, 2, 0, 2, 3, 2, 0)
	if many := s.Flush(); many != 6 {
		t.Errorf("Flush of 6: %d", many)
	}
	for n, want := range [][]byte{fill(15), fill(1), fill(14), fill(13)} {
		wantRead(t, s, n, want)
		wantStored(t, s, n, want)
	}
	wantWaiting(t, s)
	if many := s.Flush(); many != 0 {
		t.Errorf("Flush of nothing: %d", many)
	}
}

// P6.1: what is the same as what is there waits, too, and zeros are written over others.
func TestEveryWriteWaits(t *testing.T) {
	s := filled(t, 2)
	wantWrite(t, s, 1, fill(1))
	wantWrite(t, s, 1, fill(1))
	wantWrite(t, s, 0, make([]byte, 256))
	wantWaiting(t, s, 1, 1, 0)
	wantRead(t, s, 0, make([]byte, 256))
	if many := s.Flush(); many != 3 {
		t.Errorf("Flush of 3: %d", many)
	}
	wantStored(t, s, 0, make([]byte, 256))
	wantStored(t, s, 1, fill(1))
}

// P6.1: more writes than there are bits of keep wait, and come, in order.
func TestManyWritesWait(t *testing.T) {
	s := made(t, 1024)
	var order []int
	for i := range 3000 {
		n := i * 7 % 1024
		order = append(order, n)
		wantWrite(t, s, n, fill(i))
	}
	wantWaiting(t, s, order...)
	before := lookAt(s).reads
	if many := s.Flush(); many != 3000 {
		t.Errorf("Flush of 3000: %d", many)
	}
	if !bytes.Equal(s.Bytes(), before) {
		t.Error("what came is not what was read as it waited")
	}
	for i := 3000 - 1024; i < 3000; i++ {
		wantRead(t, s, i*7%1024, fill(i))
	}
}

// P6.2: of six writes those come whose bits are 1: all choices; then none waits.
func TestCrashKeeps(t *testing.T) {
	for keep := range uint64(64) {
		for _, above := range []uint64{0, 1 << 6, math.MaxUint64 - 63} {
			s := filled(t, 7)
			for n := range 6 {
				wantWrite(t, s, n, fill(20+n))
			}
			s.Crash(keep|above, -1, 0)
			for n := range 6 {
				want := fill(n)
				if keep>>n&1 == 1 {
					want = fill(20 + n)
				}
				wantRead(t, s, n, want)
				wantStored(t, s, n, want)
			}
			wantRead(t, s, 6, fill(6))
			wantWaiting(t, s)
			if many := s.Flush(); many != 0 {
				t.Fatalf("Flush behind a crash: %d", many)
			}
		}
	}
}

// P6.2: of writes of one block the last one that comes is what the store has.
func TestCrashKeepsOrder(t *testing.T) {
	for keep := range uint64(32) {
		s := filled(t, 1)
		want := fill(0)
		for i := range 5 {
			wantWrite(t, s, 0, fill(20+i))
			if keep>>i&1 == 1 {
				want = fill(20 + i)
			}
		}
		s.Crash(keep, 5, 0)
		wantRead(t, s, 0, want)
	}
}

// P6.2: the bit of the place i is that of i modulo 64, for more than 64 writes.
func TestCrashKeepsModulo64(t *testing.T) {
	keeps := []uint64{0, 1, 2, 1 << 62, 1 << 63, 1<<63 | 1, 0x5555555555555555, 0x8877665544332211, math.MaxUint64}
	for bit := range 64 {
		keeps = append(keeps, 1<<bit)
	}
	for _, keep := range keeps {
		s := made(t, 200)
		for n := range 200 {
			wantWrite(t, s, n, fill(n))
		}
		s.Crash(keep, -1, 4)
		for n := range 200 {
			want := make([]byte, 256)
			if keep&(1<<(n%64)) != 0 {
				want = fill(n)
			}
			wantStored(t, s, n, want)
		}
	}
}

// P6.2: the torn one comes with its first parts alone: below 0 with none, above 4 with 4.
func TestCrashTears(t *testing.T) {
	for _, x := range [][2]int{
		{math.MinInt, 0}, {-1 << 32, 0}, {-1<<32 + 2, 0}, {-4, 0}, {-1, 0}, {0, 0}, {1, 64}, {2, 128}, {3, 192}, {4, 256},
		{5, 256}, {6, 256}, {256, 256}, {1 << 32, 256}, {1<<32 + 1, 256}, {1 << 58, 256}, {math.MaxInt, 256},
	} {
		for torn := range 3 {
			s := filled(t, 3)
			for n := range 3 {
				wantWrite(t, s, n, fill(20+n))
			}
			s.Crash(7, torn, x[0])
			for n := range 3 {
				want := fill(20 + n)
				if n == torn {
					want = append(want[:x[1]], fill(n)[x[1]:]...)
				}
				wantStored(t, s, n, want)
				wantRead(t, s, n, want)
			}
			wantWaiting(t, s)
		}
	}
}

// P6.2: the torn one comes over what came ahead, and what comes behind it comes over it.
func TestCrashTearsInOrder(t *testing.T) {
	for parts := range 5 {
		s := filled(t, 1)
		wantWrite(t, s, 0, fill(20))
		wantWrite(t, s, 0, fill(21))
		s.Crash(3, 1, parts)
		wantStored(t, s, 0, append(fill(21)[:64*parts], fill(20)[64*parts:]...))

		s = filled(t, 1)
		wantWrite(t, s, 0, fill(20))
		wantWrite(t, s, 0, fill(21))
		s.Crash(3, 0, parts)
		wantStored(t, s, 0, fill(21))

		s = filled(t, 1)
		wantWrite(t, s, 0, fill(20))
		wantWrite(t, s, 0, fill(21))
		s.Crash(1, 0, parts)
		wantStored(t, s, 0, append(fill(20)[:64*parts], fill(0)[64*parts:]...))
	}
}

// P6.2: a torn one that does not come is lost; one that there is not tears nothing.
func TestCrashTearsNothing(t *testing.T) {
	for parts := range 5 {
		s := filled(t, 2)
		wantWrite(t, s, 0, fill(20))
		wantWrite(t, s, 1, fill(21))
		s.Crash(2, 0, parts)
		wantStored(t, s, 0, fill(0))
		wantStored(t, s, 1, fill(21))
		for _, torn := range []int{math.MinInt, -1 << 32, -64, -63, -2, -1, 2, 3, 64, 65, 1 << 32, 1<<32 + 1, math.MaxInt} {
			s := filled(t, 2)
			wantWrite(t, s, 0, fill(20))
			wantWrite(t, s, 1, fill(21))
			s.Crash(3, torn, parts)
			wantStored(t, s, 0, fill(20))
			wantStored(t, s, 1, fill(21))
		}
	}
}

// P6.2: the place torn is not taken modulo 64: one write alone is torn.
func TestCrashTearsOne(t *testing.T) {
	for _, torn := range []int{0, 1, 63, 64, 65, 127, 128, 129} {
		s := made(t, 130)
		for n := range 130 {
			wantWrite(t, s, n, fill(n))
		}
		s.Crash(math.MaxUint64, torn, 1)
		for n := range 130 {
			want := fill(n)
			if n == torn {
				clear(want[64:])
			}
			wantStored(t, s, n, want)
		}
	}
}

// P6.2: a crash of nothing that waits does nothing.
func TestCrashOfNothing(t *testing.T) {
	s := filled(t, 3)
	was := lookAt(s)
	for _, keep := range []uint64{0, 1, math.MaxUint64} {
		s.Crash(keep, 0, 2)
	}
	if !lookAt(s).is(was) {
		t.Error("a crash of nothing that waits turned the store")
	}
}

// P6.3: any bytes of a block, at any place in it, are tampered with, and no others.
func TestTamper(t *testing.T) {
	edges := []int{0, 1, 2, 63, 64, 65, 128, 192, 254, 255, 256}
	for n := range 3 {
		for _, at := range edges {
			for _, size := range edges {
				s := filled(t, 3)
				was := lookAt(s)
				e := s.Tamper(n, at, bytes.Repeat([]byte{0}, size))
				if at+size > 256 {
					if e != api.ErrArg || !lookAt(s).is(was) {
						t.Fatalf("Tamper of %d bytes at %d: %v", size, at, e)
					}
					continue
				}
				want := slices.Clone(was.blocks)
				clear(want[256*n+at : 256*n+at+size])
				if e != api.OK || !bytes.Equal(s.Bytes(), want) {
					t.Fatalf("Tamper of %d bytes of the block %d at %d: %v", size, n, at, e)
				}
				wantRead(t, s, n, want[256*n:256*n+256])
			}
		}
	}
}

// P6.3, R7: other blocks and places are refused, though there are no bytes; nothing turns.
func TestTamperRefuses(t *testing.T) {
	s := filled(t, 3)
	wantWrite(t, s, 1, fill(40))
	was := lookAt(s)
	for _, b := range [][]byte{nil, {}, {9}, fill(9), make([]byte, 257), make([]byte, 512), make([]byte, 65536)} {
		for _, n := range noBlocks(3) {
			for _, at := range []int{-1, 0, 256} {
				if e := s.Tamper(n, at, b); e != api.ErrArg {
					t.Errorf("Tamper of %d bytes of the block %d: %v", len(b), n, e)
				}
			}
		}
		for _, at := range []int{math.MinInt, math.MinInt + 1, -1 << 32, -257, -256, -1, 257, 258, 512, 1 << 32, math.MaxInt - 255, math.MaxInt - 1, math.MaxInt} {
			if e := s.Tamper(1, at, b); e != api.ErrArg {
				t.Errorf("Tamper of %d bytes at %d: %v", len(b), at, e)
			}
		}
	}
	for _, size := range []int{257, 258, 512, 768} {
		if e := s.Tamper(0, 0, make([]byte, size)); e != api.ErrArg {
			t.Errorf("Tamper of %d bytes: %v", size, e)
		}
	}
	if !lookAt(s).is(was) {
		t.Error("a call that was refused turned the store")
	}
}

// P6.3: what waits stays as the store is tampered with, is read, and comes over it.
func TestTamperStaysBeneathWhatWaits(t *testing.T) {
	s := filled(t, 2)
	wantWrite(t, s, 0, fill(20))
	wantTamper(t, s, 0, 10, []byte{1, 2, 3})
	wantTamper(t, s, 1, 255, []byte{4})
	tampered := fill(0)
	copy(tampered[10:], []byte{1, 2, 3})
	wantStored(t, s, 0, tampered)
	wantRead(t, s, 0, fill(20))
	wantRead(t, s, 1, append(fill(1)[:255], 4))
	wantWaiting(t, s, 0)
	if many := s.Flush(); many != 1 {
		t.Errorf("Flush: %d", many)
	}
	wantStored(t, s, 0, fill(20))

	wantWrite(t, s, 1, fill(21))
	wantTamper(t, s, 1, 0, fill(99))
	s.Crash(1, 0, 1)
	wantStored(t, s, 1, append(fill(21)[:64], fill(99)[64:]...))
}

// P6.3: the shelf has at most 16 stores, as they were without what waited, numbered from 0 on.
func TestPut(t *testing.T) {
	s := made(t, 2)
	wantWrite(t, s, 1, fill(90))
	for k := range 16 {
		wantTamper(t, s, 0, 0, fill(k))
		wantPut(t, s, k)
	}
	was := lookAt(s)
	for range 3 {
		if k, e := s.Put(); k != 0 || e != api.ErrMany {
			t.Errorf("Put of a 17th: %d, %v", k, e)
		}
	}
	if !lookAt(s).is(was) {
		t.Error("a Put turned the store")
	}
	for _, k := range []int{3, 15, 0, 7, 3, 15} {
		wantRestore(t, s, k)
		wantRead(t, s, 0, fill(k))
		wantRead(t, s, 1, make([]byte, 256))
	}
	if k, e := s.Put(); k != 0 || e != api.ErrMany {
		t.Errorf("Put of a 17th behind Restore: %d, %v", k, e)
	}
}

// P6.3: behind Restore the blocks are those that were put, and nothing waits.
func TestRestore(t *testing.T) {
	s := filled(t, 3)
	wantWrite(t, s, 0, fill(30))
	wantPut(t, s, 0)
	wantWaiting(t, s, 0)
	wantRead(t, s, 0, fill(30))
	s.Flush()
	wantPut(t, s, 1)
	wantWrite(t, s, 1, fill(31))
	wantTamper(t, s, 2, 0, fill(32))
	wantRestore(t, s, 0)
	wantWaiting(t, s)
	for n := range 3 {
		wantRead(t, s, n, fill(n))
		wantStored(t, s, n, fill(n))
	}
	if many := s.Flush(); many != 0 {
		t.Errorf("Flush behind Restore: %d", many)
	}
	wantRestore(t, s, 1)
	wantRead(t, s, 0, fill(30))
	wantRead(t, s, 1, fill(1))
}

// P6.3: what lies on the shelf stays, whatever is done with the store.
func TestShelfStays(t *testing.T) {
	s := filled(t, 2)
	wantPut(t, s, 0)
	for range 3 {
		wantWrite(t, s, 0, fill(50))
		s.Flush()
		wantTamper(t, s, 1, 0, fill(51))
		wantWrite(t, s, 1, fill(52))
		s.Crash(1, 0, 2)
		wantRestore(t, s, 0)
		for n := range 2 {
			wantRead(t, s, n, fill(n))
		}
	}
}

// P6.3, R7: what does not lie on the shelf is ErrNone, and nothing turns; what waits, too, stays.
func TestRestoreOfNone(t *testing.T) {
	s, other := filled(t, 2), filled(t, 2)
	wantPut(t, other, 0)
	wantWrite(t, s, 1, fill(40))
	for many := range 17 {
		was := lookAt(s)
		for _, k := range []int{math.MinInt, -1 << 32, -16, -1, many, many + 1, 16, 17, 1 << 32, 1<<32 + many, math.MaxInt} {
			if e := s.Restore(k); e != api.ErrNone {
				t.Errorf("Restore of %d of %d: %v", k, many, e)
			}
		}
		if !lookAt(s).is(was) {
			t.Fatal("a Restore of none turned the store")
		}
		if many < 16 {
			wantPut(t, s, many)
		}
	}
}

// P6.4: Bytes has all blocks, in order, without what waits.
func TestBytes(t *testing.T) {
	for _, blocks := range []int{1, 2, 5, 1024} {
		s := filled(t, blocks)
		var want []byte
		for n := range blocks {
			want = append(want, fill(n)...)
			wantWrite(t, s, n, fill(n+1))
		}
		if !bytes.Equal(s.Bytes(), want) {
			t.Errorf("Bytes of %d blocks", blocks)
		}
	}
}

// P6.4: of each Write its block, of each Flush -1, in order; of all else nothing.
func TestTrace(t *testing.T) {
	s := made(t, 5)
	s.Flush()
	wantTrace(t, s, -1)
	wantWrite(t, s, 4, fill(1))
	wantWrite(t, s, 0, fill(1))
	wantWrite(t, s, 4, fill(1))
	s.Flush()
	s.Flush()
	wantWrite(t, s, 2, fill(1))
	want := []int{-1, 4, 0, 4, -1, -1, 2}
	wantTrace(t, s, want...)
	s.Read(2)
	s.Read(9)
	s.Write(5, fill(1))
	s.Write(-1, fill(1))
	s.Write(1, fill(1)[:255])
	s.Waiting()
	s.Tamper(1, 0, fill(2))
	s.Put()
	s.Crash(0, 0, 0)
	s.Crash(math.MaxUint64, 0, 4)
	s.Restore(0)
	s.Restore(1)
	s.Bytes()
	s.Same(s)
	wantTrace(t, s, want...)
	wantWrite(t, s, 3, fill(1))
	wantTrace(t, s, append(want, 3)...)
}

// P6.4: the last 100000 alone are told.
func TestTraceForgets(t *testing.T) {
	s := made(t, 1024)
	var want []int
	next := 0
	do := func(many int) {
		for range many {
			if next%10 == 9 {
				s.Flush()
				want = append(want, -1)
			} else {
				wantWrite(t, s, next*13%1024, make([]byte, 256))
				want = append(want, next*13%1024)
			}
			next++
		}
	}
	for _, upTo := range []int{99998, 99999, 100000, 100001, 100002, 100010, 125000, 150001, 200000, 250007, 333333} {
		do(upTo - next)
		if got := s.Trace(); len(got) != min(upTo, 100000) || !slices.Equal(got, want[max(0, upTo-100000):]) {
			t.Fatalf("the trace of %d: %d of them, or others", upTo, len(got))
		}
	}
}

// P6.4: stores are the same that have the same blocks, and traces.
func TestSame(t *testing.T) {
	one, two := filled(t, 3), filled(t, 3)
	both := func(what string, want bool) {
		t.Helper()
		if one.Same(two) != want || two.Same(one) != want {
			t.Errorf("%s: same is not %v", what, want)
		}
		if !one.Same(one) || !two.Same(two) {
			t.Errorf("%s: a store is not the same as itself", what)
		}
	}
	both("two that did the same", true)
	wantTamper(t, one, 2, 255, []byte{0})
	both("one byte is another", false)
	wantTamper(t, two, 2, 255, []byte{0})
	both("that byte is the same", true)
	wantWrite(t, one, 0, fill(8))
	both("one more is written", false)
	wantWrite(t, two, 0, fill(9))
	both("unlike ones wait", true)
	one.Crash(0, 0, 0)
	both("one lost what waited", true)
	two.Flush()
	both("one flushed", false)
	one.Flush()
	both("unlike ones came", false)
	wantTamper(t, one, 0, 0, fill(9))
	both("all is the same", true)
	one.Put()
	both("one has a shelf", true)
	wantWrite(t, one, 1, fill(1))
	wantWrite(t, two, 2, fill(2))
	both("other blocks wait", false)
}

// P6.4: of unlike lengths, or orders, stores are not the same.
func TestSameOfOthers(t *testing.T) {
	if made(t, 1).Same(made(t, 2)) || made(t, 2).Same(made(t, 1)) || !made(t, 1024).Same(made(t, 1024)) {
		t.Error("same, of empty ones")
	}
	one, two := made(t, 2), made(t, 2)
	wantWrite(t, one, 0, fill(0))
	wantWrite(t, one, 1, fill(1))
	wantWrite(t, two, 1, fill(1))
	wantWrite(t, two, 0, fill(0))
	one.Flush()
	two.Flush()
	if !bytes.Equal(one.Bytes(), two.Bytes()) || one.Same(two) || two.Same(one) {
		t.Error("the order of writes plays no part")
	}
	three := made(t, 2)
	three.Flush()
	if three.Same(made(t, 2)) || made(t, 2).Same(three) {
		t.Error("a flush of nothing plays no part")
	}
}

// P6.4: what a trace has forgotten plays no part.
func TestSameForgets(t *testing.T) {
	one, two := made(t, 2), made(t, 2)
	wantWrite(t, one, 0, make([]byte, 256))
	wantWrite(t, two, 1, make([]byte, 256))
	for range 99999 {
		one.Flush()
		two.Flush()
	}
	if one.Same(two) {
		t.Error("the first one of 100000 plays no part")
	}
	one.Flush()
	two.Flush()
	if !one.Same(two) || !two.Same(one) {
		t.Error("what was forgotten plays a part")
	}
}

// P6.4: of a nil store, and one that New did not give: ErrNil, 0, nothing.
func TestNoStore(t *testing.T) {
	for _, s := range []*Store{nil, {}, new(Store)} {
		for range 2 {
			if s.Len() != 0 || s.Flush() != 0 || len(s.Waiting()) != 0 || len(s.Bytes()) != 0 || len(s.Trace()) != 0 {
				t.Errorf("of no store: %d, %d, %v, %x, %v", s.Len(), s.Flush(), s.Waiting(), s.Bytes(), s.Trace())
			}
			for _, n := range []int{math.MinInt, -1, 0, 1, math.MaxInt} {
				b, e := s.Read(n)
				if len(b) != 0 || e != api.ErrNil {
					t.Errorf("Read(%d) of no store: %x, %v", n, b, e)
				}
				for _, b := range [][]byte{nil, fill(1), make([]byte, 257)} {
					if e := s.Write(n, b); e != api.ErrNil {
						t.Errorf("Write(%d) of no store: %v", n, e)
					}
					if e := s.Tamper(n, 0, b); e != api.ErrNil {
						t.Errorf("Tamper(%d) of no store: %v", n, e)
					}
				}
				if e := s.Restore(n); e != api.ErrNil {
					t.Errorf("Restore(%d) of no store: %v", n, e)
				}
				s.Crash(math.MaxUint64, n, n)
			}
			if k, e := s.Put(); k != 0 || e != api.ErrNil {
				t.Errorf("Put of no store: %d, %v", k, e)
			}
		}
		for _, o := range []*Store{nil, {}, s} {
			if !s.Same(o) || !o.Same(s) {
				t.Error("two that are no stores are not the same")
			}
		}
		for _, o := range []*Store{made(t, 1), filled(t, 3)} {
			if s.Same(o) || o.Same(s) {
				t.Error("a store is the same as none")
			}
		}
	}
}

// model is a store by the document's words: what waits is kept as it came.
type model struct {
	blocks  [][256]byte
	waiting []modelWrite
	shelf   [][][256]byte
	trace   []int
}

type modelWrite struct {
	block int
	bytes [256]byte
}

func (m *model) read(n int) [256]byte {
	b := m.blocks[n]
	for _, w := range m.waiting {
		if w.block == n {
			b = w.bytes
		}
	}
	return b
}

func (m *model) crash(keep uint64, torn, parts int) {
	for len(m.waiting) > 0 {
		w := m.waiting[0]
		m.waiting = m.waiting[1:]
		for at := range 256 {
			if keep%2 == 1 && (torn != 0 || at/64 < parts) {
				m.blocks[w.block][at] = w.bytes[at]
			}
		}
		keep = keep/2 + keep%2<<63
		torn--
	}
}

func (m *model) want(t *testing.T, s *Store) {
	t.Helper()
	var all []byte
	for n, b := range m.blocks {
		all = append(all, b[:]...)
		want := m.read(n)
		wantRead(t, s, n, want[:])
	}
	if !bytes.Equal(s.Bytes(), all) {
		t.Fatal("the store has other blocks")
	}
	var waiting []int
	for _, w := range m.waiting {
		waiting = append(waiting, w.block)
	}
	wantWaiting(t, s, waiting...)
	wantTrace(t, s, m.trace...)
}

// step does one thing at random with a store and its model.
func (m *model) step(t *testing.T, r *rand.Rand, s *Store) {
	t.Helper()
	n := r.Intn(len(m.blocks))
	var b [256]byte
	r.Read(b[:])
	switch k := r.Intn(20); {
	case k < 12:
		wantWrite(t, s, n, b[:])
		m.waiting = append(m.waiting, modelWrite{n, b})
		m.trace = append(m.trace, n)
	case k < 13:
		if many := s.Flush(); many != len(m.waiting) {
			t.Fatalf("Flush: %d, want %d", many, len(m.waiting))
		}
		m.crash(math.MaxUint64, -1, 0)
		m.trace = append(m.trace, -1)
	case k < 15:
		keep, torn, parts := r.Uint64()|r.Uint64(), r.Intn(len(m.waiting)+2)-1, r.Intn(7)-1
		s.Crash(keep, torn, parts)
		m.crash(keep, torn, parts)
	case k < 17:
		at := r.Intn(257)
		wantTamper(t, s, n, at, b[at:])
		copy(m.blocks[n][at:], b[at:])
	case k < 18 && len(m.shelf) < 16:
		wantPut(t, s, len(m.shelf))
		m.shelf = append(m.shelf, slices.Clone(m.blocks))
	case k < 19 && len(m.shelf) > 0:
		at := r.Intn(len(m.shelf))
		wantRestore(t, s, at)
		copy(m.blocks, m.shelf[at])
		m.waiting = nil
	}
}

// P6.1 to P6.5, R5: whatever is done, in whichever order, a store is as the document's words tell.
func TestRandomRuns(t *testing.T) {
	for seed := range int64(60) {
		r := rand.New(rand.NewSource(seed))
		blocks := 1 + r.Intn(6)
		s, twin, m := made(t, blocks), made(t, blocks), &model{blocks: make([][256]byte, blocks)}
		twinModel := &model{blocks: make([][256]byte, blocks)}
		twinRand := rand.New(rand.NewSource(seed))
		twinRand.Intn(6)
		for range 150 {
			m.step(t, r, s)
			m.want(t, s)
			twinModel.step(t, twinRand, twin)
			if !s.Same(twin) {
				t.Fatalf("seed %d: two that did the same are not the same", seed)
			}
		}
	}
}

// P6.5: what was written last is read, behind flushes, and whole crashes, too.
func TestLastWriteIsRead(t *testing.T) {
	r := rand.New(rand.NewSource(5))
	s := made(t, 8)
	last := make([][]byte, 8)
	for n := range last {
		last[n] = make([]byte, 256)
	}
	for i := range 2000 {
		switch n := r.Intn(8); r.Intn(10) {
		case 0:
			s.Flush()
		case 1:
			s.Crash(math.MaxUint64, -1, 0)
		default:
			last[n] = fill(i)
			wantWrite(t, s, n, last[n])
		}
		for n := range last {
			wantRead(t, s, n, last[n])
		}
	}
}

// P6.6: behind a Flush no crash loses anything.
func TestFlushedStays(t *testing.T) {
	s := filled(t, 3)
	for i, keep := range []uint64{0, 1, 2, 7, math.MaxUint64} {
		for n := range 3 {
			wantWrite(t, s, n, fill(40+i+n))
			wantWrite(t, s, n, fill(60+i+n))
		}
		s.Flush()
		for torn := -1; torn < 7; torn++ {
			s.Crash(keep, torn, torn-1)
			for n := range 3 {
				wantRead(t, s, n, fill(60+i+n))
				wantStored(t, s, n, fill(60+i+n))
			}
		}
	}
}

// P6.7: behind a crash each block, but the torn one's, is one that it had, or that waited.
func TestCrashedBlocksWereThere(t *testing.T) {
	r := rand.New(rand.NewSource(7))
	for range 300 {
		blocks := 1 + r.Intn(5)
		s := filled(t, blocks)
		were := make([][][]byte, blocks)
		for n := range blocks {
			were[n] = append(were[n], fill(n))
		}
		for i := range r.Intn(150) {
			n := r.Intn(blocks)
			were[n] = append(were[n], fill(100+i))
			wantWrite(t, s, n, fill(100+i))
		}
		waiting := s.Waiting()
		torn := r.Intn(len(waiting) + 1)
		s.Crash(r.Uint64(), torn, r.Intn(5))
		for n := range blocks {
			if torn < len(waiting) && n == waiting[torn] {
				continue
			}
			got, _ := s.Read(n)
			if !slices.ContainsFunc(were[n], func(b []byte) bool { return bytes.Equal(b, got) }) {
				t.Fatalf("the block %d is one that there never was: %x", n, got)
			}
		}
	}
}

// R4: what is handed in is neither written nor kept.
func TestListsAreTheCallers(t *testing.T) {
	s := made(t, 3)
	room := append(fill(1), fill(2)...)
	b := room[:256]
	wantWrite(t, s, 0, b)
	wantWrite(t, s, 1, b)
	wantTamper(t, s, 2, 0, b)
	s.Crash(math.MaxUint64, 0, 2)
	wantWrite(t, s, 1, b)
	s.Flush()
	wantWrite(t, s, 1, b)
	if !bytes.Equal(room, append(fill(1), fill(2)...)) {
		t.Error("a list that was handed in was written")
	}
	clear(room)
	wantRead(t, s, 0, append(fill(1)[:128], make([]byte, 128)...))
	wantRead(t, s, 1, fill(1))
	wantStored(t, s, 1, fill(1))
	wantStored(t, s, 2, fill(1))
}

// R4: what is answered is the caller's: to write into it, or behind it, turns nothing.
func TestAnswersAreTheCallers(t *testing.T) {
	s := filled(t, 3)
	wantPut(t, s, 0)
	wantWrite(t, s, 1, fill(20))
	wantWrite(t, s, 2, fill(21))
	was := lookAt(s)
	for n := range 3 {
		b, _ := s.Read(n)
		clear(append(b, 9)[:cap(b)])
		clear(b)
	}
	all, waiting, trace := s.Bytes(), s.Waiting(), s.Trace()
	clear(append(all, 1, 2, 3))
	clear(all)
	clear(append(waiting, 1, 2, 3))
	clear(waiting)
	clear(append(trace, 1, 2, 3))
	clear(trace)
	if !lookAt(s).is(was) {
		t.Error("to write into answers turned the store")
	}
	trace = s.Trace()
	wantWrite(t, s, 0, fill(22))
	if !slices.Equal(trace, was.trace) {
		t.Error("a write turned an answer")
	}
	wantRestore(t, s, 0)
	if !bytes.Equal(s.Bytes(), was.blocks) {
		t.Error("to write into answers turned the shelf")
	}
}

// R3: stores share nothing.
func TestStoresAreTheirOwn(t *testing.T) {
	one, two := filled(t, 2), filled(t, 2)
	was := lookAt(two)
	wantPut(t, one, 0)
	wantWrite(t, one, 0, fill(30))
	one.Flush()
	wantTamper(t, one, 1, 0, fill(31))
	wantWrite(t, one, 1, fill(32))
	if !lookAt(two).is(was) || two.Restore(0) != api.ErrNone {
		t.Error("what was done with one store turned another one")
	}
}
