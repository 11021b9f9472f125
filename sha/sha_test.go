package sha

import (
	"bytes"
	"crypto/sha256"
	"encoding/hex"
	"math"
	"math/big"
	"strings"
	"testing"
)

// text is n bytes, of which no two neighbours are the same.
func text(n int) []byte {
	b := make([]byte, n)
	for i := range b {
		b[i] = byte(i*7 + i/256 + 1)
	}
	return b
}

// edgeSizes are lengths at and beside multiples of 64, and of 64 less the length's bytes.
func edgeSizes() []int {
	l := []int{0, 1, 2, 3}
	for k := 64; k <= 64*5; k += 64 {
		l = append(l, k-10, k-9, k-8, k-7, k-2, k-1, k, k+1, k+2)
	}
	return append(l, 1000, 4095, 4096, 4097)
}

// primes are the first n.
func primes(n int) []int64 {
	var l []int64
	for k := int64(2); len(l) < n; k++ {
		if big.NewInt(k).ProbablyPrime(0) {
			l = append(l, k)
		}
	}
	return l
}

// fraction is the first 32 bits of the fraction of p's root of that power.
func fraction(p int64, power uint) uint32 {
	want := new(big.Int).Lsh(big.NewInt(p), 32*power)
	root := new(big.Int)
	for bit := 63; bit >= 0; bit-- {
		more := new(big.Int).SetBit(root, bit, 1)
		if new(big.Int).Exp(more, big.NewInt(int64(power)), nil).Cmp(want) <= 0 {
			root = more
		}
	}
	return uint32(root.Uint64())
}

// P1.1: the examples of the document, and of the standard that it names.
func TestSumOfKnownTexts(t *testing.T) {
	for _, x := range []struct{ in, want string }{
		{"", "e3b0c44298fc1c149afbf4c8996fb92427ae41e4649b934ca495991b7852b855"},
		{"abc", "ba7816bf8f01cfea414140de5dae2223b00361a396177a9cb410ff61f20015ad"},
		{"abcdbcdecdefdefgefghfghighijhijkijkljklmklmnlmnomnopnopq", "248d6a61d20638b8e5c026930c3e6039a33ce45964ff2167f6ecedd419db06c1"},
		{strings.Repeat("a", 1000000), "cdc76e5c9914fb9281a1c7e284d73e67f1809a48a497200e046d39ccc7112cd0"},
	} {
		d := Sum([]byte(x.in))
		if got := hex.EncodeToString(d[:]); got != x.want {
			t.Errorf("Sum of %d bytes: %s, want %s", len(x.in), got, x.want)
		}
	}
}

// P1.1: every length up to some blocks, and the edges beyond.
func TestSumOfEveryLength(t *testing.T) {
	for n := range 400 {
		b := text(n)
		if got, want := Sum(b), sha256.Sum256(b); got != want {
			t.Errorf("Sum of %d bytes: %x, want %x", n, got, want)
		}
		zeros := make([]byte, n)
		if got, want := Sum(zeros), sha256.Sum256(zeros); got != want {
			t.Errorf("Sum of %d zeros: %x, want %x", n, got, want)
		}
	}
	for _, n := range edgeSizes() {
		b := text(n)
		if got, want := Sum(b), sha256.Sum256(b); got != want {
			t.Errorf("Sum of %d bytes: %x, want %x", n, got, want)
		}
	}
}

// P1.1: parts stand one behind the other; ones of nothing, and no parts, are none.
func TestSumOfParts(t *testing.T) {
	want := sha256.Sum256(nil)
	for _, got := range [][32]byte{Sum(), Sum(nil), Sum([]byte{}), Sum(nil, []byte{}, nil)} {
		if got != want {
			t.Errorf("Sum of nothing: %x", got)
		}
	}
	want = sha256.Sum256([]byte("abc"))
	for _, got := range [][32]byte{
		Sum([]byte("abc")), Sum([]byte("a"), []byte("bc")), Sum([]byte("ab"), nil, []byte("c")),
		Sum(nil, []byte("a"), []byte("b"), []byte("c"), []byte{}),
	} {
		if got != want {
			t.Errorf("Sum of the parts of abc: %x", got)
		}
	}
	if Sum([]byte("c"), []byte("ab")) == want {
		t.Error("the order of parts plays no part")
	}
}

// P1.1: New, Write, Sum and Len of a state, and the zero state.
func TestState(t *testing.T) {
	var zero State
	if zero != New() {
		t.Error("the zero state is not as New's")
	}
	for _, start := range []State{zero, New()} {
		if start.Len() != 0 || start.Sum() != sha256.Sum256(nil) {
			t.Errorf("a state of no bytes: %d, %x", start.Len(), start.Sum())
		}
		for _, n := range edgeSizes() {
			b := text(n)
			s := start.Write(b)
			if s.Len() != uint64(n) || s.Sum() != sha256.Sum256(b) {
				t.Errorf("a state of %d bytes: %d, %x", n, s.Len(), s.Sum())
			}
		}
	}
}

// P1.1: a state goes on behind its Sum, and behind nothing that is written.
func TestStateGoesOn(t *testing.T) {
	s := New()
	b := text(200)
	for i := range b {
		if s.Write(nil) != s || s.Write([]byte{}) != s {
			t.Fatalf("nothing written to %d bytes is something", i)
		}
		if got, want := s.Sum(), sha256.Sum256(b[:i]); got != want || s.Sum() != want {
			t.Fatalf("%d bytes one by one: %x, want %x", i, got, want)
		}
		s = s.Write(b[i : i+1])
		if s.Len() != uint64(i+1) {
			t.Fatalf("Len of %d bytes: %d", i+1, s.Len())
		}
	}
}

// P1.1: Len is modulo 2^64. (No test can write so many bytes: the count is laid.)
func TestLenBeginsAnew(t *testing.T) {
	s := State{size: math.MaxUint64 - 62}
	if s = s.Write(make([]byte, 62)); s.Len() != math.MaxUint64 {
		t.Errorf("Len ahead of its end: %d", s.Len())
	}
	if s = s.Write(make([]byte, 1)); s.Len() != 0 {
		t.Errorf("Len behind its end: %d", s.Len())
	}
	if s = s.Write(make([]byte, 5)); s.Len() != 5 {
		t.Errorf("Len five behind its end: %d", s.Len())
	}
}

// P1.2: every bit goes to its place, to the right, or the left of numbers below 0.
func TestTurn(t *testing.T) {
	numbers := []int{math.MinInt, math.MinInt + 1, math.MinInt + 31, math.MaxInt, math.MaxInt - 1, 1 << 32, -1 << 32, 1<<32 + 5, -1<<32 - 5}
	for n := -130; n <= 130; n++ {
		numbers = append(numbers, n)
	}
	for _, n := range numbers {
		places := n & 31 // the low bits of a number are its remainder, below 0, too
		for _, x := range []uint32{0, 1, 1 << 31, 0x80000001, 0x12345678, 0xdeadbeef, math.MaxUint32} {
			var want uint32
			for bit := range 32 {
				if x>>bit&1 == 1 {
					want |= 1 << ((bit - places + 32) % 32)
				}
			}
			if got := Turn(x, n); got != want {
				t.Errorf("Turn(%#x, %d) = %#x, want %#x", x, n, got, want)
			}
		}
	}
	if Turn(1, 1) != 1<<31 || Turn(1, -1) != 2 || Turn(1, 33) != 1<<31 || Turn(1, 0) != 1 || Turn(1, 32) != 1 || Turn(1, -33) != 2 {
		t.Error("Turn of 1 by single places")
	}
}

// P1.2: the constants are of the primes' cube roots; the first state, of square roots.
func TestConst(t *testing.T) {
	for i, p := range primes(64) {
		if got, want := Const(i), fraction(p, 3); got != want {
			t.Errorf("Const(%d) = %#x, want %#x", i, got, want)
		}
	}
	for i, p := range primes(8) {
		if got, want := firstState[i], fraction(p, 2); got != want {
			t.Errorf("word %d of the first state = %#x, want %#x", i, got, want)
		}
	}
}

// P1.2: of a place that is none, 0.
func TestConstOfNone(t *testing.T) {
	for _, n := range []int{-1, -2, -64, 64, 65, 128, 1 << 32, -1 << 32, math.MinInt, math.MaxInt} {
		if got := Const(n); got != 0 {
			t.Errorf("Const(%d) = %#x, want 0", n, got)
		}
	}
	if Const(0) != 0x428a2f98 || Const(63) != 0xc67178f2 {
		t.Error("Const of the first and the last place")
	}
}

// P1.3: two and three parts, cut everywhere.
func TestPartingPlaysNoPart(t *testing.T) {
	b := text(150)
	want, state := sha256.Sum256(b), New().Write(b)
	for i := range len(b) + 1 {
		if got := Sum(b[:i], b[i:]); got != want {
			t.Fatalf("cut at %d: %x", i, got)
		}
		for j := i; j <= len(b); j++ {
			s := New().Write(b[:i]).Write(b[i:j]).Write(b[j:])
			if s != state || s.Len() != 150 || s.Sum() != want || Sum(b[:i], b[i:j], b[j:]) != want {
				t.Fatalf("cut at %d and %d: %x", i, j, s.Sum())
			}
		}
	}
}

// P1.3: parts of one size each, greater than a block, too.
func TestPartsOfEverySize(t *testing.T) {
	b := text(1000)
	want := sha256.Sum256(b)
	for size := 1; size <= 200; size++ {
		var parts [][]byte
		s := New()
		for at := 0; at < len(b); at += size {
			part := b[at:min(at+size, len(b))]
			parts = append(parts, part)
			s = s.Write(part)
		}
		if Sum(parts...) != want || s.Sum() != want {
			t.Errorf("parts of %d bytes: %x, %x", size, Sum(parts...), s.Sum())
		}
	}
}

// P1.4: two states that go on from one are their own, and it stays.
func TestWrittenStateStays(t *testing.T) {
	for _, n := range edgeSizes() {
		b := text(n)
		old := New().Write(b)
		for _, m := range []int{0, 1, 8, 9, 55, 56, 63, 64, 65, 200} {
			more, other := text(m), bytes.Repeat([]byte{9}, m)
			one, two := old.Write(more), old.Write(other)
			if old.Len() != uint64(n) || old.Sum() != sha256.Sum256(b) {
				t.Fatalf("a state of %d bytes did not stay as %d were written", n, m)
			}
			if one.Sum() != sha256.Sum256(append(b[:n:n], more...)) || two.Sum() != sha256.Sum256(append(b[:n:n], other...)) {
				t.Fatalf("two states behind one of %d bytes, by %d more", n, m)
			}
		}
	}
}

// A state keeps no bytes of whole blocks, and none behind its own.
func TestTailHasNoMoreThanItsBytes(t *testing.T) {
	for _, n := range edgeSizes() {
		var want [blockSize]byte
		b := text(n)
		copy(want[:], b[n/blockSize*blockSize:])
		if s := New().Write(b); s.tail != want {
			t.Errorf("the tail of %d bytes: %v", n, s.tail)
		}
	}
}

// R4: what is handed in is not written, and not kept.
func TestPartsAreTheCallers(t *testing.T) {
	for _, n := range edgeSizes() {
		b := text(n)
		want := sha256.Sum256(b)
		s := New().Write(b)
		Sum(b, b)
		if !bytes.Equal(b, text(n)) {
			t.Fatalf("a part of %d bytes was written", n)
		}
		clear(b)
		if s.Sum() != want {
			t.Fatalf("a part of %d bytes was kept", n)
		}
	}
}

// R4: what is answered is the caller's.
func TestAnswersAreTheCallers(t *testing.T) {
	s := New().Write([]byte("abc"))
	d := s.Sum()
	clear(d[:])
	if s.Sum() != sha256.Sum256([]byte("abc")) {
		t.Error("a digest that was written turned its state")
	}
}
