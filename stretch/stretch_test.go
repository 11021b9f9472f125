package stretch

import (
	"bytes"
	"crypto/hmac"
	"crypto/pbkdf2"
	"crypto/sha256"
	"encoding/binary"
	"encoding/hex"
	"math"
	"slices"
	"testing"

	"carling/api"
)

// text is n bytes, none of them 0, of which no two neighbours are the same.
func text(n int) []byte {
	b := make([]byte, n)
	for i := range b {
		b[i] = byte(i*7%251 + 1)
	}
	return b
}

// edgeSizes are lengths of keys, at and beside multiples of 32, and at both ends.
func edgeSizes() []int {
	return []int{0, 1, 2, 31, 32, 33, 63, 64, 65, 95, 96, 97, 255, 256, 257, 991, 992, 993, 1023, 1024}
}

// wrongRounds are numbers of rounds that may not be.
func wrongRounds() []int {
	return []int{math.MinInt, -1 << 32, -10000, -2, -1, 0, 10001, 10002, 65537, 1<<32 + 1, 1<<32 + 100, math.MaxInt}
}

// wrongSizes are sizes that may not be.
func wrongSizes() []int {
	return []int{math.MinInt, -1 << 32, -1024, -32, -1, 1025, 1026, 1056, 65537, 1<<32 + 1, 1<<32 + 32, math.MaxInt}
}

// reference is the key as Go's own library has it.
func reference(t *testing.T, pass, salt []byte, rounds, size int) []byte {
	t.Helper()
	if size == 0 { // the library refuses it
		return nil
	}
	key, err := pbkdf2.Key(sha256.New, string(pass), salt, rounds, size)
	if err != nil {
		t.Fatal(err)
	}
	return key
}

// referenceMac is the mac as Go's own library has it.
func referenceMac(key []byte, parts ...[]byte) []byte {
	h := hmac.New(sha256.New, key)
	for _, p := range parts {
		h.Write(p)
	}
	return h.Sum(nil)
}

// referenceBlock is the block n by the library's macs: its keys have no block 0, nor very late ones.
func referenceBlock(pass, salt []byte, rounds int, n uint32) [32]byte {
	m := referenceMac(pass, salt, binary.BigEndian.AppendUint32(nil, n))
	block := [32]byte(m)
	for range rounds - 1 {
		m = referenceMac(pass, m)
		for i, x := range m {
			block[i] ^= x
		}
	}
	return block
}

// checkKey holds a key against the library's.
func checkKey(t *testing.T, pass, salt []byte, rounds, size int) {
	t.Helper()
	got, e := Key(pass, salt, rounds, size)
	if want := reference(t, pass, salt, rounds, size); e != api.OK || len(got) != size || !bytes.Equal(got, want) {
		t.Fatalf("Key of %d bytes, %d of salt, %d rounds and the size %d: %x, %v, want %x", len(pass), len(salt), rounds, size, got, e, want)
	}
}

// P3.1: known keys, of one block and of parts of some, of texts with 0 in them, too.
func TestKeyOfKnownTexts(t *testing.T) {
	for _, x := range []struct {
		pass, salt string
		rounds     int
		want       string
	}{
		{"passwd", "salt", 1, "55ac046e56e3089fec1691c22544b605f94185216dde0465e68b9d57c20dacbc49ca9cccf179b645991664b39d77ef317c71b845b1e30bd509112041d3a19783"},
		{"password", "salt", 1, "120fb6cffcf8b32c43e7225256c4f837a86548c92ccc35480805987cb70be17b"},
		{"password", "salt", 2, "ae4d0c95af6b46d32d0adff928f06dd02a303f8ef3c251dfd6e2d85a95474c43"},
		{"password", "salt", 4096, "c5e478d59288c841aa530db6845c4c8d962893a001ce4e11a4963873aa98134a"},
		{"passwordPASSWORDpassword", "saltSALTsaltSALTsaltSALTsaltSALTsalt", 4096, "348c89dbcbd32b2f32d814b8116e84cf2b17347ebc1800181c4e2a1fb8dd53e1c635518c7dac47e9"},
		{"pass\x00word", "sa\x00lt", 4096, "89b69d0516f829893c696226650a8687"},
	} {
		key, e := Key([]byte(x.pass), []byte(x.salt), x.rounds, len(x.want)/2)
		if got := hex.EncodeToString(key); got != x.want || e != api.OK {
			t.Errorf("Key of %q, %q, %d rounds: %s, %v, want %s", x.pass, x.salt, x.rounds, got, e, x.want)
		}
	}
}

// P3.1: the chapter's example: a key of no bytes is empty.
func TestKeyOfNoBytes(t *testing.T) {
	for _, rounds := range []int{1, 2, 10000} {
		for _, pass := range [][]byte{nil, {}, text(5), text(65)} {
			if key, e := Key(pass, text(3), rounds, 0); len(key) != 0 || e != api.OK {
				t.Errorf("a key of no bytes, %d rounds: %x, %v", rounds, key, e)
			}
		}
	}
}

// P3.1: every size, of few rounds.
func TestKeyOfEverySize(t *testing.T) {
	pass, salt := text(11), text(16)
	for size := range 1025 {
		checkKey(t, pass, salt, 1, size)
		checkKey(t, pass, salt, 2, size)
	}
}

// P3.1: numbers of rounds, at both ends and between.
func TestKeyOfRounds(t *testing.T) {
	pass, salt := text(11), text(16)
	for rounds := 1; rounds <= 300; rounds++ {
		checkKey(t, pass, salt, rounds, 40)
	}
	for _, rounds := range []int{1000, 1023, 1024, 1025, 9999, 10000} {
		checkKey(t, pass, salt, rounds, 33)
	}
	checkKey(t, pass, salt, 10000, 1024)
}

// P3.1: passphrases and salts of many lengths, none, and longer than a mac's key, too.
func TestKeyOfEveryLength(t *testing.T) {
	lengths := []int{0, 1, 2, 16, 31, 32, 33, 51, 52, 55, 56, 59, 60, 63, 64, 65, 119, 120, 127, 128, 129, 1000}
	for _, n := range lengths {
		for _, m := range lengths {
			checkKey(t, text(n), text(m), 3, 70)
		}
	}
	for n := range 140 {
		checkKey(t, text(n), text(4), 2, 33)
		checkKey(t, text(4), text(n), 2, 33)
	}
}

// P3.1: a passphrase, or a salt, of no bytes: nil or empty is the same.
func TestKeyOfNothing(t *testing.T) {
	for _, size := range edgeSizes() {
		want := reference(t, nil, nil, 2, size)
		for _, pass := range [][]byte{nil, {}} {
			for _, salt := range [][]byte{nil, {}} {
				if got, e := Key(pass, salt, 2, size); e != api.OK || !bytes.Equal(got, want) {
					t.Errorf("Key of nothing, the size %d: %x, %v, want %x", size, got, e, want)
				}
			}
		}
		checkKey(t, nil, text(9), 2, size)
		checkKey(t, text(9), nil, 2, size)
	}
}

// P3.1: what the passphrase, the salt, and the rounds are plays a part.
func TestKeyHangsOnAll(t *testing.T) {
	want, _ := Key([]byte("pass"), []byte("salt"), 3, 32)
	for _, x := range []struct {
		pass, salt string
		rounds     int
	}{{"pasS", "salt", 3}, {"pas", "salt", 3}, {"pass", "salT", 3}, {"pass", "sal", 3}, {"pass", "salt", 2}, {"pass", "salt", 4}, {"salt", "pass", 3}, {"passs", "alt", 3}, {"pass", "salt\x00", 3}, {"pass", "\x00salt", 3}} {
		if got, e := Key([]byte(x.pass), []byte(x.salt), x.rounds, 32); e != api.OK || bytes.Equal(got, want) {
			t.Errorf("Key of %q, %q, %d rounds: %x, %v", x.pass, x.salt, x.rounds, got, e)
		}
	}
}

// P3.1: rounds that are not from 1 to 10000 are refused, and nothing stands beside the error.
func TestKeyRefusesRounds(t *testing.T) {
	for _, rounds := range wrongRounds() {
		for _, size := range append(edgeSizes(), wrongSizes()...) {
			if key, e := Key(text(4), text(5), rounds, size); e != api.ErrArg || len(key) != 0 {
				t.Errorf("%d rounds, the size %d: %x, %v", rounds, size, key, e)
			}
		}
	}
}

// P3.1: sizes that are not from 0 to 1024 are refused, and nothing stands beside the error.
func TestKeyRefusesSizes(t *testing.T) {
	for _, size := range wrongSizes() {
		for _, rounds := range []int{1, 2, 100, 9999, 10000} {
			if key, e := Key(text(4), text(5), rounds, size); e != api.ErrArg || len(key) != 0 {
				t.Errorf("%d rounds, the size %d: %x, %v", rounds, size, key, e)
			}
		}
	}
	if key, e := Key(nil, nil, 0, -1); e != api.ErrArg || len(key) != 0 {
		t.Errorf("no rounds, of nothing: %x, %v", key, e)
	}
}

// P3.2: blocks of many numbers: 0, the greatest, and ones that tell where each of the four bytes stands.
func TestBlock(t *testing.T) {
	numbers := []uint32{0, 1, 2, 3, 31, 32, 33, 255, 256, 257, 65535, 65536, 1<<24 - 1, 1 << 24, 0x01020304, 0x04030201, 1<<31 - 1, 1 << 31, math.MaxUint32 - 1, math.MaxUint32}
	for _, n := range numbers {
		for _, rounds := range []int{1, 2, 3, 4, 50} {
			for _, size := range []int{0, 1, 16, 64, 65} {
				pass, salt := text(size), text(size/2)
				if got, want := Block(pass, salt, rounds, n), referenceBlock(pass, salt, rounds, n); got != want {
					t.Fatalf("Block %d of %d bytes, %d rounds: %x, want %x", n, size, rounds, got, want)
				}
			}
		}
	}
}

// P3.2: as many rounds as there may be, and no fewer.
func TestBlockOfRounds(t *testing.T) {
	for _, rounds := range []int{1, 2, 9999, 10000} {
		for _, n := range []uint32{0, 1, math.MaxUint32} {
			if got, want := Block(text(7), text(9), rounds, n), referenceBlock(text(7), text(9), rounds, n); got != want {
				t.Errorf("Block %d, %d rounds: %x, want %x", n, rounds, got, want)
			}
		}
	}
}

// P3.2: zero, if there may not be so many rounds.
func TestBlockRefusesRounds(t *testing.T) {
	for _, rounds := range wrongRounds() {
		for _, n := range []uint32{0, 1, 2, 33, math.MaxUint32} {
			if got := Block(text(4), text(5), rounds, n); got != [32]byte{} {
				t.Errorf("Block %d, %d rounds: %x", n, rounds, got)
			}
			if got := Block(nil, nil, rounds, n); got != [32]byte{} {
				t.Errorf("Block %d of nothing, %d rounds: %x", n, rounds, got)
			}
		}
	}
}

// P3.1, P3.2: a key is its blocks, one behind the other, from 1 on.
func TestKeyIsItsBlocks(t *testing.T) {
	pass, salt := text(20), text(16)
	for _, rounds := range []int{1, 2, 7, 100} {
		var blocks []byte
		for n := range uint32(32) {
			block := Block(pass, salt, rounds, n+1)
			blocks = append(blocks, block[:]...)
		}
		for _, size := range edgeSizes() {
			if key, e := Key(pass, salt, rounds, size); e != api.OK || !bytes.Equal(key, blocks[:size]) {
				t.Errorf("Key of %d rounds, the size %d: %x, %v, want %x", rounds, size, key, e, blocks[:size])
			}
		}
	}
}

// P3.2: each byte is joined with its own of the other.
func TestJoin(t *testing.T) {
	for x := range 256 {
		for y := range 256 {
			var a, b, want [32]byte
			for i := range a {
				a[i], b[i] = byte(x+i), byte(y+3*i)
				want[i] = a[i] ^ b[i]
			}
			if got := Join(a, b); got != want {
				t.Fatalf("Join(%x, %x) = %x, want %x", a, b, got, want)
			}
		}
	}
}

// P3.2: joined with nothing a list stays; with itself it is zero; who is first plays no part.
func TestJoinOfSome(t *testing.T) {
	a, b := [32]byte(text(32)), [32]byte(text(64)[32:])
	zero := [32]byte{}
	if Join(a, zero) != a || Join(zero, a) != a || Join(a, a) != zero || Join(zero, zero) != zero {
		t.Error("Join with nothing, or with itself")
	}
	if Join(a, b) != Join(b, a) || Join(Join(a, b), b) != a || Join(a, b) == a {
		t.Error("Join of two, either way")
	}
	if a != [32]byte(text(32)) || b != [32]byte(text(64)[32:]) {
		t.Error("what was joined did not stay")
	}
	for i := range 32 {
		for bit := range 8 {
			one := zero
			one[i] = 1 << bit
			if got := Join(a, one); got[i] != a[i]^1<<bit || Join(got, one) != a || slices.Equal(got[:], a[:]) {
				t.Errorf("Join with bit %d of byte %d alone: %x", bit, i, got)
			}
		}
	}
}

// P3.3: a longer key begins with the shorter one, at every size.
func TestLongerKeyBeginsWithTheShorter(t *testing.T) {
	for _, rounds := range []int{1, 3} {
		for _, pass := range [][]byte{nil, text(12), text(65)} {
			longest, e := Key(pass, text(16), rounds, 1024)
			if e != api.OK || len(longest) != 1024 {
				t.Fatalf("the longest key: %d bytes, %v", len(longest), e)
			}
			for size := range 1025 {
				if key, e := Key(pass, text(16), rounds, size); e != api.OK || len(key) != size || !bytes.HasPrefix(longest, key) {
					t.Fatalf("the key of %d rounds and the size %d is not how a longer one begins: %x, %v", rounds, size, key, e)
				}
			}
		}
	}
}

// R4: what is handed in is not written: not even the room behind it; nor does that play a part.
func TestListsAreTheCallers(t *testing.T) {
	for _, n := range []int{0, 1, 16, 31, 32, 63, 64, 65, 130} {
		pass, salt := text(300), text(300)
		want := reference(t, text(n), text(n), 3, 100)
		if key, e := Key(pass[:n], salt[:n], 3, 100); e != api.OK || !bytes.Equal(key, want) {
			t.Fatalf("Key of %d bytes, with others in the room behind them: %x, %v, want %x", n, key, e, want)
		}
		Block(pass[:n], salt[:n], 3, 1)
		Key(pass[:n], salt[:n], 0, 100)
		Key(pass[:n], pass[:n], 3, 1024)
		if !bytes.Equal(pass, text(300)) || !bytes.Equal(salt, text(300)) {
			t.Fatalf("lists of %d bytes were written", n)
		}
	}
}

// R3, R4: the same call answers the same, whatever was done with earlier answers and lists.
func TestAnswersAreTheCallers(t *testing.T) {
	for _, size := range edgeSizes() {
		pass, salt := text(10), text(11)
		want := reference(t, pass, salt, 2, size)
		first, _ := Key(pass, salt, 2, size)
		clear(first[:cap(first)])
		second, _ := Key(pass, salt, 2, size)
		clear(pass)
		clear(salt)
		if !bytes.Equal(second, want) || len(first) != size || !bytes.Equal(first, make([]byte, size)) {
			t.Fatalf("a key of %d bytes: %x, want %x", size, second, want)
		}
		if third, e := Key(text(10), text(11), 2, size); e != api.OK || !bytes.Equal(third, want) {
			t.Fatalf("a key of %d bytes, once more: %x, %v, want %x", size, third, e, want)
		}
	}
}
