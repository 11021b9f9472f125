package mac

import (
	"bytes"
	"crypto/hmac"
	"crypto/sha256"
	"encoding/hex"
	"slices"
	"strings"
	"testing"
)

// text is n bytes, none of them 0, of which no two neighbours are the same.
func text(n int) []byte {
	b := make([]byte, n)
	for i := range b {
		b[i] = byte(i*7%251 + 1)
	}
	return b
}

// keySizes are lengths of keys: all up to two blocks, and some longer ones.
func keySizes() []int {
	var l []int
	for n := range 131 {
		l = append(l, n)
	}
	return append(l, 191, 192, 193, 255, 256, 257, 1000, 4096)
}

// partSizes are lengths of parts, with no bytes, and at and beside multiples of 64.
func partSizes() []int {
	return []int{0, 1, 2, 31, 32, 33, 54, 55, 56, 57, 63, 64, 65, 92, 119, 120, 127, 128, 129, 500}
}

// reference is the mac as Go's own library has it.
func reference(key []byte, parts ...[]byte) [32]byte {
	h := hmac.New(sha256.New, key)
	for _, p := range parts {
		h.Write(p)
	}
	return [32]byte(h.Sum(nil))
}

// unhex is the bytes that a text of digits tells.
func unhex(t *testing.T, s string) []byte {
	t.Helper()
	b, err := hex.DecodeString(s)
	if err != nil {
		t.Fatal(err)
	}
	return b
}

// P2.1: a key of at most 64 bytes stays, with 0 behind it.
func TestKeyIsFilledUp(t *testing.T) {
	if Key(nil) != [64]byte{} || Key([]byte{}) != [64]byte{} {
		t.Error("no key is not 64 bytes 0")
	}
	for n := range 65 {
		k := text(n)
		got := Key(k)
		if !bytes.Equal(got[:n], k) || !bytes.Equal(got[n:], make([]byte, 64-n)) {
			t.Errorf("Key of %d bytes: %x", n, got)
		}
	}
}

// P2.1: a key of more than 64 bytes is its digest, with 0 behind it.
func TestLongKeyIsItsDigest(t *testing.T) {
	for _, n := range keySizes() {
		if n <= 64 {
			continue
		}
		k := text(n)
		var want [64]byte
		d := sha256.Sum256(k)
		copy(want[:], d[:])
		if got := Key(k); got != want {
			t.Errorf("Key of %d bytes: %x, want %x", n, got, want)
		}
	}
}

// P2.1: a key of 64 bytes is ahead of turning, and at its edge.
func TestKeyAtItsEdge(t *testing.T) {
	k := text(65)
	if got := Key(k[:64]); !bytes.Equal(got[:], k[:64]) {
		t.Errorf("Key of 64 bytes: %x", got)
	}
	if got := Key(k[:63]); !bytes.Equal(got[:63], k[:63]) || got[63] != 0 {
		t.Errorf("Key of 63 bytes: %x", got)
	}
	if got := Key(k); bytes.Equal(got[:], k[:64]) || !bytes.Equal(got[32:], make([]byte, 32)) {
		t.Errorf("Key of 65 bytes: %x", got)
	}
}

// P2.1: the texts of RFC 4231, with keys that are short, and longer than a block.
func TestSumOfKnownTexts(t *testing.T) {
	long := strings.Repeat("aa", 131)
	for _, x := range []struct{ key, in, want string }{
		{strings.Repeat("0b", 20), hex.EncodeToString([]byte("Hi There")),
			"b0344c61d8db38535ca8afceaf0bf12b881dc200c9833da726e9376c2e32cff7"},
		{hex.EncodeToString([]byte("Jefe")), hex.EncodeToString([]byte("what do ya want for nothing?")),
			"5bdcc146bf60754e6a042426089575c75a003f089d2739839dec58b964ec3843"},
		{strings.Repeat("aa", 20), strings.Repeat("dd", 50),
			"773ea91e36800e46854db8ebd09181a72959098b3ef8c122d9635514ced565fe"},
		{"0102030405060708090a0b0c0d0e0f10111213141516171819", strings.Repeat("cd", 50),
			"82558a389a443c0ea4cc819899f2083a85f0faa3e578f8077a2e3ff46729665b"},
		{long, hex.EncodeToString([]byte("Test Using Larger Than Block-Size Key - Hash Key First")),
			"60e431591ee0b67f0d8a26aacbf5b77f8e0bc6213728c5140546040f0ee37f54"},
		{long, hex.EncodeToString([]byte("This is a test using a larger than block-size key and a larger than block-size data. The key needs to be hashed before being used by the HMAC algorithm.")),
			"9b09ffa71b942fcb27635fbcd5b0e944bfdc63644f0713938a7f51535c3a35e2"},
	} {
		d := Sum(unhex(t, x.key), unhex(t, x.in))
		if got := hex.EncodeToString(d[:]); got != x.want {
			t.Errorf("Sum under %s: %s, want %s", x.key, got, x.want)
		}
	}
}

// P2.1: keys and parts of every length that is an edge of either.
func TestSumOfEveryLength(t *testing.T) {
	for _, n := range keySizes() {
		k := text(n)
		for _, m := range partSizes() {
			p := bytes.Repeat([]byte{byte(m), 54, 0}, m)
			if got, want := Sum(k, p), reference(k, p); got != want {
				t.Errorf("Sum under %d bytes, of %d: %x, want %x", n, len(p), got, want)
			}
		}
	}
}

// P2.1: keys whose bytes are those that they are turned by, and all others.
func TestSumUnderEveryByte(t *testing.T) {
	for x := range 256 {
		for _, n := range []int{1, 32, 64, 65} {
			k := bytes.Repeat([]byte{byte(x)}, n)
			if got, want := Sum(k, []byte("b")), reference(k, []byte("b")); got != want {
				t.Errorf("Sum under %d bytes %d: %x, want %x", n, x, got, want)
			}
		}
	}
}

// P2.1: no key, no parts, and parts without bytes.
func TestSumOfNothing(t *testing.T) {
	const none = "b613679a0814d9ec772f95d778c35fc5ff1697c493715653c6c712144292c5ad"
	for _, k := range [][]byte{nil, {}, make([]byte, 64)} {
		for _, d := range [][32]byte{Sum(k), Sum(k, nil), Sum(k, []byte{}), Sum(k, nil, []byte{}, nil), Sum(k, [][]byte{}...)} {
			if got := hex.EncodeToString(d[:]); got != none {
				t.Errorf("Sum of nothing under nothing: %s, want %s", got, none)
			}
		}
	}
	for _, n := range keySizes() {
		k := text(n)
		if Sum(k) != reference(k) || Sum(k, nil) != reference(k) || Sum(k, []byte{}, nil) != reference(k) {
			t.Errorf("Sum of nothing under %d bytes: %x", n, Sum(k))
		}
	}
}

// P2.1: parts stand one behind the other, all of them.
func TestSumOfParts(t *testing.T) {
	k := []byte("key")
	want := reference(k, []byte("abc"))
	for _, got := range [][32]byte{
		Sum(k, []byte("abc")), Sum(k, []byte("a"), []byte("bc")), Sum(k, []byte("ab"), nil, []byte("c")),
		Sum(k, nil, []byte("a"), []byte("b"), []byte("c"), []byte{}),
	} {
		if got != want {
			t.Errorf("Sum of the parts of abc: %x, want %x", got, want)
		}
	}
	for _, p := range []string{"ab", "bc", "cab", "abcc", "acb", "abc\x00", ""} {
		if Sum(k, []byte(p)) == want {
			t.Errorf("Sum of %q is that of abc", p)
		}
	}
}

// P2.2: the same bytes are, whoever has them.
func TestEqualOfTheSame(t *testing.T) {
	if !Equal(nil, nil) || !Equal(nil, []byte{}) || !Equal([]byte{}, nil) || !Equal([]byte{}, []byte{}) {
		t.Error("lists of nothing are not the same")
	}
	for n := range 200 {
		a, b := text(n), text(n)
		if !Equal(a, b) || !Equal(a, a) {
			t.Errorf("%d bytes are not the same", n)
		}
	}
}

// P2.2: one bit, at any place, makes them unlike; so do several that are joined to nothing.
func TestEqualOfUnlikeBytes(t *testing.T) {
	for n := range 70 {
		for i := range n {
			for bit := range 8 {
				a, b := text(n), text(n)
				b[i] ^= 1 << bit
				if Equal(a, b) || Equal(b, a) {
					t.Fatalf("%d bytes are the same, with bit %d of byte %d turned", n, bit, i)
				}
				b[n-1-i] ^= 1 << bit
				if same := 2*i == n-1; Equal(a, b) != same || Equal(b, a) != same {
					t.Fatalf("%d bytes, with bit %d of byte %d turned twice", n, bit, i)
				}
			}
		}
	}
	if Equal([]byte{1, 2}, []byte{2, 1}) || Equal([]byte{3, 0}, []byte{0, 3}) || Equal([]byte{255, 1}, []byte{0, 0}) || Equal([]byte{128, 128}, []byte{0, 0}) {
		t.Error("lists whose sums are the same are the same")
	}
}

// P2.2: lists of unlike lengths are not, though one begins, or ends, with the other.
func TestEqualOfUnlikeLengths(t *testing.T) {
	if Equal([]byte{1}, nil) || Equal(nil, []byte{1}) || Equal([]byte{0}, nil) || Equal([]byte{}, []byte{0}) {
		t.Error("a byte is the same as none")
	}
	for n := range 70 {
		b := text(70)
		zeros := make([]byte, 70)
		if Equal(b, b[:n]) || Equal(b[:n], b) || Equal(b, b[70-n:]) || Equal(b[70-n:], b) || Equal(zeros, zeros[:n]) || Equal(zeros[:n], zeros) {
			t.Errorf("70 bytes are the same as %d", n)
		}
	}
	if b := make([]byte, 257); Equal(b, b[:1]) || Equal(b[:256], nil) {
		t.Error("lengths are held against each other modulo 256")
	}
}

// P2.2: a mac that is right.
func TestCheckOfTheMac(t *testing.T) {
	for _, n := range keySizes() {
		k := text(n)
		for _, m := range partSizes() {
			p := text(m)
			want := reference(k, p)
			if !Check(k, want[:], p) || !Check(k, want[:], p[:m/2], nil, p[m/2:]) {
				t.Errorf("the mac under %d bytes, of %d, is not right", n, m)
			}
		}
		want := reference(k)
		if !Check(k, want[:]) || !Check(k, want[:], nil) || !Check(k, want[:], []byte{}, nil) {
			t.Errorf("the mac under %d bytes, of none, is not right", n)
		}
	}
}

// P2.2: a want with other bytes, fewer, more, or none.
func TestCheckOfAnotherWant(t *testing.T) {
	k, p := []byte("key"), []byte("part")
	right := reference(k, p)
	for i := range right {
		for bit := range 8 {
			other := right
			other[i] ^= 1 << bit
			if Check(k, other[:], p) {
				t.Errorf("a mac with bit %d of byte %d turned is right", bit, i)
			}
		}
		if Check(k, right[:i], p) || Check(k, right[i+1:], p) {
			t.Errorf("%d or %d bytes of a mac are right", i, 31-i)
		}
	}
	for _, more := range [][]byte{{0}, {1}, make([]byte, 32), right[:]} {
		if Check(k, slices.Concat(right[:], more), p) || Check(k, slices.Concat(more, right[:]), p) {
			t.Errorf("a mac and %d bytes more are right", len(more))
		}
	}
	if Check(k, nil, p) || Check(k, []byte{}, p) || Check(k, make([]byte, 32), p) || Check(nil, nil) || Check(nil, make([]byte, 32)) {
		t.Error("no mac, or one of zeros, is right")
	}
}

// P2.2: the mac of other parts, or under another key.
func TestCheckOfAnotherMac(t *testing.T) {
	k, p := []byte("key"), []byte("part")
	right := reference(k, p)
	if !Check(k, right[:], p) {
		t.Fatal("the mac is not right")
	}
	if Check([]byte("kez"), right[:], p) || Check([]byte("ke"), right[:], p) || Check(nil, right[:], p) {
		t.Error("a mac is right under another key")
	}
	if Check(k, right[:], []byte("parT")) || Check(k, right[:], []byte("par")) || Check(k, right[:]) || Check(k, right[:], p, p) || Check(k, right[:], p, []byte{0}) {
		t.Error("a mac is right of other parts")
	}
	inner, plain := sha256.Sum256(append(turned(k, 54), p...)), sha256.Sum256(p)
	if Check(k, inner[:], p) || Check(k, plain[:], p) {
		t.Error("a digest without the outer one is right")
	}
}

// turned is a short key of 64 bytes, each byte turned.
func turned(key []byte, by byte) []byte {
	b := make([]byte, 64)
	copy(b, key)
	for i := range b {
		b[i] ^= by
	}
	return b
}

// P2.3: two and three parts, cut everywhere.
func TestPartingPlaysNoPart(t *testing.T) {
	for _, k := range [][]byte{nil, text(5), text(64), text(65)} {
		b := text(140)
		want := reference(k, b)
		for i := range len(b) + 1 {
			if Sum(k, b[:i], b[i:]) != want || !Check(k, want[:], b[:i], b[i:]) {
				t.Fatalf("under %d bytes, cut at %d: %x", len(k), i, Sum(k, b[:i], b[i:]))
			}
			for j := i; j <= len(b); j += 7 {
				if Sum(k, b[:i], b[i:j], b[j:]) != want || !Check(k, want[:], b[:i], b[i:j], b[j:]) {
					t.Fatalf("under %d bytes, cut at %d and %d", len(k), i, j)
				}
			}
		}
	}
}

// P2.3: parts of one size each, and ones without bytes between them.
func TestPartsOfEverySize(t *testing.T) {
	k, b := text(40), text(500)
	want := reference(k, b)
	for size := 1; size <= 200; size++ {
		parts := slices.Collect(slices.Chunk(b, size))
		if Sum(k, parts...) != want || !Check(k, want[:], parts...) {
			t.Errorf("parts of %d bytes: %x", size, Sum(k, parts...))
		}
		var sparse [][]byte
		for _, p := range parts {
			sparse = append(sparse, nil, p, []byte{})
		}
		if Sum(k, sparse...) != want || !Check(k, want[:], sparse...) {
			t.Errorf("parts of %d bytes, and of none: %x", size, Sum(k, sparse...))
		}
	}
}

// P2.3: the key is no part: its bytes do not go on into the parts.
func TestKeyIsNoPart(t *testing.T) {
	if Sum([]byte("a"), []byte("bc")) == Sum([]byte("ab"), []byte("c")) {
		t.Error("where the key ends plays no part")
	}
}

// P2.4: bytes 0 behind a key, up to 64, play no part.
func TestZerosBehindKey(t *testing.T) {
	for n := range 65 {
		k, p := text(n), text(20)
		want := Sum(k, p)
		for zeros := range 65 - n {
			longer := append(k[:n:n], make([]byte, zeros)...)
			if Key(longer) != Key(k) || Sum(longer, p) != want || !Check(longer, want[:], p) {
				t.Fatalf("a key of %d bytes, with %d zeros behind it: %x, want %x", n, zeros, Sum(longer, p), want)
			}
		}
	}
}

// P2.4: up to 64, and no farther; and behind the key alone.
func TestZerosBeyondKey(t *testing.T) {
	for n := range 65 {
		k, p := text(n), text(20)
		for _, size := range []int{65, 66, 128} {
			longer := append(k[:n:n], make([]byte, size-n)...)
			if Sum(longer, p) == Sum(k, p) || Key(longer) == Key(k) {
				t.Errorf("a key of %d bytes, and it with zeros up to %d, have the same mac", n, size)
			}
		}
		if n > 0 && Sum(append([]byte{0}, k...), p) == Sum(k, p) {
			t.Errorf("a key of %d bytes, and it with a zero ahead, have the same mac", n)
		}
	}
}

// P2.4: a key of more than 64 bytes, and its digest, have the same macs: so does that with zeros.
func TestLongKeyHasItsDigestsMac(t *testing.T) {
	for _, n := range []int{65, 66, 100, 128, 1000} {
		k := text(n)
		d := sha256.Sum256(k)
		want := Sum(k, []byte("part"))
		if Sum(d[:], []byte("part")) != want || Sum(append(d[:], make([]byte, 32)...), []byte("part")) != want {
			t.Errorf("a key of %d bytes, and its digest, have unlike macs", n)
		}
	}
}

// R4: what is handed in is not written: not even the room behind it.
func TestListsAreTheCallers(t *testing.T) {
	for _, n := range []int{0, 1, 31, 32, 33, 63, 64, 65, 130} {
		whole, room, wantRoom := text(300), text(300), text(300)
		right := reference(whole[:n], room[:n], whole[:n])
		copy(wantRoom, right[:])
		parts := [][]byte{room[:n], whole[:n], whole[n:], nil}
		Sum(whole[:n], parts[:2]...)
		if !Check(whole[:n], wantRoom[:32], parts[:2]...) {
			t.Fatalf("a key of %d bytes, with others in the room behind it: another mac", n)
		}
		Key(whole[:n])
		Equal(whole[:n], room[:n])
		if !bytes.Equal(whole, text(300)) || !bytes.Equal(room, text(300)) || !bytes.Equal(wantRoom[32:], text(300)[32:]) || !bytes.Equal(wantRoom[:32], right[:]) {
			t.Fatalf("lists of %d bytes were written", n)
		}
		if len(parts[0]) != n || len(parts[1]) != n || len(parts[2]) != 300-n || parts[3] != nil {
			t.Fatalf("a list of parts of %d bytes was written", n)
		}
	}
}

// R3, R4: the same call answers the same, whatever was done with earlier answers and lists.
func TestAnswersAreTheCallers(t *testing.T) {
	for _, n := range []int{5, 64, 65} {
		k, p := text(n), text(30)
		filled, d := Key(k), Sum(k, p)
		wantKey, wantSum := filled, d
		clear(filled[:])
		clear(d[:])
		if Key(k) != wantKey || Sum(k, p) != wantSum {
			t.Errorf("answers under %d bytes that were written turned later ones", n)
		}
		kept := Key(k)
		clear(k)
		clear(p)
		if kept != wantKey || Key(text(n)) != wantKey || Sum(text(n), text(30)) != wantSum {
			t.Errorf("a key of %d bytes was kept", n)
		}
	}
}
