package cipher

import (
	"bytes"
	"crypto/sha256"
	"encoding/binary"
	"encoding/hex"
	"math"
	"math/bits"
	"testing"
)

// most is how many bytes of a stream there may be.
const most = 1 << 20

// text is n bytes, none of them 0, of which no two neighbours are the same.
func text(n int) []byte {
	b := make([]byte, n)
	for i := range b {
		b[i] = byte(i*7%251 + 1)
	}
	return b
}

// unhex is the bytes that a text of digits tells.
func unhex(t *testing.T, s string) []byte {
	t.Helper()
	b, err := hex.DecodeString(s)
	if err != nil {
		t.Fatal(err)
	}
	return b
}

// risingKey is the key of RFC 8439's examples: 0, 1, 2 and so on.
func risingKey() [32]byte {
	var key [32]byte
	for i := range key {
		key[i] = byte(i)
	}
	return key
}

// edgeSizes are lengths at and beside multiples of 64.
func edgeSizes() []int {
	return []int{0, 1, 2, 3, 63, 64, 65, 127, 128, 129, 255, 256, 257, 1000, 4096, 65535, 65536, 65537}
}

// edgeCounters are counters at both ends, and ones that tell where each byte stands.
func edgeCounters() []uint32 {
	return []uint32{0, 1, 2, 255, 256, 65535, 65536, 0x01020304, 0x04030201, 1<<31 - 1, 1 << 31, math.MaxUint32 - 1, math.MaxUint32}
}

// edgeWords are words at both ends, of one bit, and some others.
func edgeWords() []uint32 {
	l := []uint32{0, math.MaxUint32, 0x7fffffff, 0x01020304, 0xdeadbeef, 0x55555555, 0xaaaaaaaa}
	for n := range 32 {
		l = append(l, 1<<n)
	}
	return l
}

// referenceRows turns rows of four words: each row of a block plays the part of one word of a quarter round.
func referenceRows(a, b, c, d *[4]uint32) {
	step := func(sum, more, turned *[4]uint32, by int) {
		for i := range sum {
			sum[i] += more[i]
			turned[i] = bits.RotateLeft32(turned[i]^sum[i], by)
		}
	}
	step(a, b, d, 16)
	step(c, d, b, 12)
	step(a, b, d, 8)
	step(c, d, b, 7)
}

// rotate is a row, so many places on.
func rotate(r [4]uint32, n int) [4]uint32 {
	return [4]uint32{r[n%4], r[(n+1)%4], r[(n+2)%4], r[(n+3)%4]}
}

// referenceBlock is a block by whole rows: the diagonals are columns of rows that were moved.
func referenceBlock(key [32]byte, nonce [12]byte, counter uint32) [64]byte {
	var laid [64]byte
	copy(laid[:], "expand 32-byte k")
	copy(laid[16:], key[:])
	binary.LittleEndian.PutUint32(laid[48:], counter)
	copy(laid[52:], nonce[:])
	var first, rows [4][4]uint32
	for i := range 16 {
		first[i/4][i%4] = binary.LittleEndian.Uint32(laid[4*i:])
	}
	rows = first
	for range 10 {
		for n := range 2 {
			for i := range rows {
				rows[i] = rotate(rows[i], n*i)
			}
			referenceRows(&rows[0], &rows[1], &rows[2], &rows[3])
			for i := range rows {
				rows[i] = rotate(rows[i], 4-n*i)
			}
		}
	}
	for i := range 16 {
		binary.LittleEndian.PutUint32(laid[4*i:], rows[i/4][i%4]+first[i/4][i%4])
	}
	return laid
}

// referenceStream is the blocks' first bytes, from a counter on.
func referenceStream(key [32]byte, nonce [12]byte, counter uint32, size int) []byte {
	var b []byte
	for n := uint64(counter); len(b) < size; n++ {
		block := referenceBlock(key, nonce, uint32(n%(1<<32)))
		b = append(b, block[:]...)
	}
	return b[:size]
}

// joined is both, byte by byte.
func joined(a, b []byte) []byte {
	l := make([]byte, len(a))
	for i := range a {
		l[i] = a[i] ^ b[i]
	}
	return l
}

// back is what a quarter round makes w of: its steps, the last one first.
func back(w [4]uint32) [4]uint32 {
	a, b, c, d := w[0], w[1], w[2], w[3]
	b = bits.RotateLeft32(b, -7) ^ c
	c -= d
	d = bits.RotateLeft32(d, -8) ^ a
	a -= b
	b = bits.RotateLeft32(b, -12) ^ c
	c -= d
	d = bits.RotateLeft32(d, -16) ^ a
	a -= b
	return [4]uint32{a, b, c, d}
}

// P4.1: the quarter rounds that RFC 8439 has, 2.1.1 and 2.2.1.
func TestPublishedQuarters(t *testing.T) {
	for _, x := range [][2][4]uint32{
		{{0x11111111, 0x01020304, 0x9b8d6f43, 0x01234567}, {0xea2a92f4, 0xcb1cf8ce, 0x4581472e, 0x5881c4bb}},
		{{0x516461b1, 0x2a5f714c, 0x53372767, 0x3d631689}, {0xbdb886dc, 0xcfacafd2, 0xe46bea80, 0xccc07c79}},
	} {
		if got := Quarter(x[0]); got != x[1] {
			t.Errorf("Quarter(%x) = %x, want %x", x[0], got, x[1])
		}
	}
	if got := Quarter([4]uint32{}); got != [4]uint32{} {
		t.Errorf("Quarter of zeros: %x", got)
	}
}

// P4.1: every quarter round is that of rows; sums go over.
func TestQuarter(t *testing.T) {
	for _, a := range edgeWords() {
		for _, b := range edgeWords() {
			w := [4][4]uint32{{a, b, a, b}, {b, a, a, ^b}, {^a, b, b, a}, {a + b, a, ^b, b}}
			rows := w
			referenceRows(&rows[0], &rows[1], &rows[2], &rows[3])
			for i := range 4 {
				in, want := [4]uint32{w[0][i], w[1][i], w[2][i], w[3][i]}, [4]uint32{rows[0][i], rows[1][i], rows[2][i], rows[3][i]}
				if got := Quarter(in); got != want {
					t.Fatalf("Quarter(%x) = %x, want %x", in, got, want)
				}
			}
		}
	}
}

// P4.4: no two quarter rounds are one: each is gone back from, and to.
func TestNoTwoQuartersAreOne(t *testing.T) {
	seen := map[[4]uint32][4]uint32{}
	for _, a := range edgeWords() {
		for _, b := range edgeWords() {
			for _, w := range [][4]uint32{{a, b, 0, 0}, {0, a, b, 1}, {1, 0, a, b}, {a, 2, 0, b}, {b, a, ^a, ^b}, {a, a, b, b}} {
				q := Quarter(w)
				if back(q) != w || Quarter(back(w)) != w {
					t.Fatalf("Quarter(%x) = %x is not gone back from", w, q)
				}
				if other, ok := seen[q]; ok && other != w {
					t.Fatalf("Quarter(%x) and Quarter(%x) are %x", w, other, q)
				}
				seen[q] = w
			}
		}
	}
}

// P4.1: the blocks that RFC 8439 has: 2.3.2, and A.1's five.
func TestPublishedBlocks(t *testing.T) {
	for _, x := range []struct {
		key     [32]byte
		nonce   [12]byte
		counter uint32
		want    string
	}{
		{risingKey(), [12]byte{3: 9, 7: 0x4a}, 1, "10f1e7e4d13b5915500fdd1fa32071c4c7d1f4c733c068030422aa9ac3d46c4ed2826446079faa0914c2d705d98b02a2b5129cd1de164eb9cbd083e8a2503c4e"},
		{[32]byte{}, [12]byte{}, 0, "76b8e0ada0f13d90405d6ae55386bd28bdd219b8a08ded1aa836efcc8b770dc7da41597c5157488d7724e03fb8d84a376a43b8f41518a11cc387b669b2ee6586"},
		{[32]byte{}, [12]byte{}, 1, "9f07e7be5551387a98ba977c732d080dcb0f29a048e3656912c6533e32ee7aed29b721769ce64e43d57133b074d839d531ed1f28510afb45ace10a1f4b794d6f"},
		{[32]byte{31: 1}, [12]byte{}, 1, "3aeb5224ecf849929b9d828db1ced4dd832025e8018b8160b82284f3c949aa5a8eca00bbb4a73bdad192b5c42f73f2fd4e273644c8b36125a64addeb006c13a0"},
		{[32]byte{1: 0xff}, [12]byte{}, 2, "72d54dfbf12ec44b362692df94137f328fea8da73990265ec1bbbea1ae9af0ca13b25aa26cb4a648cb9b9d1be65b2c0924a66c54d545ec1b7374f4872e99f096"},
		{[32]byte{}, [12]byte{11: 2}, 0, "c2c64d378cd536374ae204b9ef933fcd1a8b2288b3dfa49672ab765b54ee27c78a970e0e955c14f3a88e741b97c286f75f8fc299e8148362fa198a39531bed6d"},
	} {
		if got := Block(x.key, x.nonce, x.counter); !bytes.Equal(got[:], unhex(t, x.want)) {
			t.Errorf("Block(%x, %x, %d) = %x, want %s", x.key, x.nonce, x.counter, got, x.want)
		}
		if got := referenceBlock(x.key, x.nonce, x.counter); !bytes.Equal(got[:], unhex(t, x.want)) {
			t.Errorf("the test's own block is wrong: %x, want %s", got, x.want)
		}
	}
}

// P4.1: blocks of counters at their ends: what is at the last counter is the whole of it.
func TestBlockOfEveryCounter(t *testing.T) {
	key, nonce := [32]byte(text(32)), [12]byte(text(12))
	for _, n := range edgeCounters() {
		if got, want := Block(key, nonce, n), referenceBlock(key, nonce, n); got != want {
			t.Errorf("the block %d: %x, want %x", n, got, want)
		}
	}
	last := unhex(t, "ff2941b8d740f6cbb50936bf997ebd5218cb108dc53f41c64841d0218167430ca03b770ca74ccb642a28194d1dedd2ed13151e25ec5d7faeb6d060bfb7e6b146")
	if got := Block(risingKey(), [12]byte{3: 9, 7: 0x4a}, math.MaxUint32); !bytes.Equal(got[:], last) {
		t.Errorf("the last block: %x, want %x", got, last)
	}
}

// P4.1: each bit of the key, the nonce and the counter plays its own part.
func TestBlockHangsOnAll(t *testing.T) {
	key, nonce := [32]byte(text(32)), [12]byte(text(12))
	seen := map[[64]byte]bool{Block(key, nonce, 7): true}
	check := func(key [32]byte, nonce [12]byte, counter uint32) {
		got := Block(key, nonce, counter)
		if seen[got] || got != referenceBlock(key, nonce, counter) {
			t.Errorf("Block(%x, %x, %d) = %x", key, nonce, counter, got)
		}
		seen[got] = true
	}
	for bit := range 8 {
		for i := range key {
			k := key
			k[i] ^= 1 << bit
			check(k, nonce, 7)
		}
		for i := range nonce {
			n := nonce
			n[i] ^= 1 << bit
			check(key, n, 7)
		}
	}
	for bit := range 32 {
		check(key, nonce, 7^1<<bit)
	}
	for b := range 256 {
		var k [32]byte
		var n [12]byte
		for i := range k {
			k[i] = byte(b + i*i)
		}
		for i := range n {
			n[i] = byte(b * (i + 1))
		}
		check(k, n, uint32(b)<<24|uint32(b))
	}
}

// P4.2: a stream is its blocks, one behind the other, at every size.
func TestStreamOfEverySize(t *testing.T) {
	key, nonce := [32]byte(text(32)), [12]byte(text(12))
	for _, counter := range []uint32{0, 1, 1 << 31, math.MaxUint32} {
		want := referenceStream(key, nonce, counter, 700)
		for size := range 701 {
			if got := Stream(key, nonce, counter, size); !bytes.Equal(got, want[:size]) {
				t.Fatalf("the stream from %d on, the size %d: %x, want %x", counter, size, got, want[:size])
			}
		}
	}
	for _, counter := range edgeCounters() {
		for _, size := range edgeSizes()[:14] {
			if got := Stream(key, nonce, counter, size); !bytes.Equal(got, referenceStream(key, nonce, counter, size)) {
				t.Errorf("the stream from %d on, the size %d", counter, size)
			}
		}
	}
}

// P4.2: sizes that are too small, or too great, answer no bytes.
func TestStreamRefusesSizes(t *testing.T) {
	for _, size := range []int{math.MinInt, -1 << 32, -1<<32 + 64, -most, -64, -1, most + 1, most + 63, most + 64, 2 * most, 1 << 31, 1 << 32, 1<<32 + 64, math.MaxInt} {
		for _, counter := range []uint32{0, 1, math.MaxUint32} {
			if got := Stream(risingKey(), [12]byte{}, counter, size); len(got) != 0 {
				t.Errorf("the size %d: %d bytes", size, len(got))
			}
		}
	}
	if got := Stream(risingKey(), [12]byte{}, 1, 0); len(got) != 0 {
		t.Errorf("the size 0: %x", got)
	}
}

// P4.2: as many bytes as there may be: they are those that another maker of this stream answers.
func TestLongestStream(t *testing.T) {
	key, nonce := risingKey(), [12]byte{3: 9, 7: 0x4a}
	for _, x := range []struct {
		counter uint32
		want    string
	}{
		{1, "98a7030128e164101149387cfc379ede5335f1628a651b87f7852f467dec9fe4"},
		{0xffffc000, "701ac981806067dea3b1469b78a556f61eb37b7fd5c1d5306c1b46a1c450f672"},
	} {
		got := Stream(key, nonce, x.counter, most)
		if d := sha256.Sum256(got); len(got) != most || !bytes.Equal(d[:], unhex(t, x.want)) {
			t.Errorf("the longest stream from %d on: %d bytes, of the digest %x, want %s", x.counter, len(got), d, x.want)
		}
		if less := Stream(key, nonce, x.counter, most-1); !bytes.Equal(less, got[:most-1]) {
			t.Errorf("the stream of a byte less from %d on: %d bytes", x.counter, len(less))
		}
	}
}

// P4.2: behind the last counter comes 0, and the nonce stays as it is.
func TestCountersGoOver(t *testing.T) {
	key, nonce := risingKey(), [12]byte{3: 9, 7: 0x4a}
	got := Stream(key, nonce, math.MaxUint32-1, 256)
	want := append(Stream(key, nonce, math.MaxUint32-1, 128), Stream(key, nonce, 0, 128)...)
	if !bytes.Equal(got, want) {
		t.Errorf("two blocks behind the last: %x, want %x", got, want)
	}
	if d := sha256.Sum256(got); !bytes.Equal(d[:], unhex(t, "25906c431e4c151bab6eb4413cd46f3358525a9ac3d25a1715712af8b2021158")) {
		t.Errorf("the stream that goes over has the digest %x", d)
	}
	last, first := Block(key, nonce, math.MaxUint32), Block(key, nonce, 0)
	if got := Stream(key, nonce, math.MaxUint32, 65); !bytes.Equal(got, append(last[:], first[0])) {
		t.Errorf("a byte behind the last block: %x", got)
	}
	whole := Stream(key, nonce, math.MaxUint32-99, most)
	if !bytes.Equal(whole[:6400], Stream(key, nonce, math.MaxUint32-99, 6400)) || !bytes.Equal(whole[6400:], Stream(key, nonce, 0, most-6400)) {
		t.Error("the longest stream that goes over")
	}
	b := text(300)
	if got := Turn(key, nonce, math.MaxUint32, b); !bytes.Equal(got, joined(b, referenceStream(key, nonce, math.MaxUint32, 300))) {
		t.Errorf("bytes that are turned as counters go over: %x", got)
	}
}

// P4.2: the texts that RFC 8439 turns: 2.4.2, and A.2's three.
func TestPublishedTurns(t *testing.T) {
	for _, x := range []struct {
		key     [32]byte
		nonce   [12]byte
		counter uint32
		b       string
		want    string
	}{
		{risingKey(), [12]byte{7: 0x4a}, 1, "Ladies and Gentlemen of the class of '99: If I could offer you only one tip for the future, sunscreen would be it.", "6e2e359a2568f98041ba0728dd0d6981e97e7aec1d4360c20a27afccfd9fae0bf91b65c5524733ab8f593dabcd62b3571639d624e65152ab8f530c359f0861d807ca0dbf500d6a6156a38e088a22b65e52bc514d16ccf806818ce91ab77937365af90bbf74a35be6b40b8eedf2785e42874d"},
		{[32]byte{}, [12]byte{}, 0, string(make([]byte, 64)), "76b8e0ada0f13d90405d6ae55386bd28bdd219b8a08ded1aa836efcc8b770dc7da41597c5157488d7724e03fb8d84a376a43b8f41518a11cc387b669b2ee6586"},
		{[32]byte{31: 1}, [12]byte{11: 2}, 1, "Any submission to the IETF intended by the Contributor for publication as all or part of an IETF Internet-Draft or RFC and any statement made within the context of an IETF activity is considered an \"IETF Contribution\". Such statements include oral statements in IETF sessions, as well as written and electronic communications made at any time or place, which are addressed to", "a3fbf07df3fa2fde4f376ca23e82737041605d9f4f4f57bd8cff2c1d4b7955ec2a97948bd3722915c8f3d337f7d370050e9e96d647b7c39f56e031ca5eb6250d4042e02785ececfa4b4bb5e8ead0440e20b6e8db09d881a7c6132f420e52795042bdfa7773d8a9051447b3291ce1411c680465552aa6c405b7764d5e87bea85ad00f8449ed8f72d0d662ab052691ca66424bc86d2df80ea41f43abf937d3259dc4b2d0dfb48a6c9139ddd7f76966e928e635553ba76c5c879d7b35d49eb2e62b0871cdac638939e25e8a1e0ef9d5280fa8ca328b351c3c765989cbcf3daa8b6ccc3aaf9f3979c92b3720fc88dc95ed84a1be059c6499b9fda236e7e818b04b0bc39c1e876b193bfe5569753f88128cc08aaa9b63d1a16f80ef2554d7189c411f5869ca52c5b83fa36ff216b9c1d30062bebcfd2dc5bce0911934fda79a86f6e698ced759c3ff9b6477338f3da4f9cd8514ea9982ccafb341b2384dd902f3d1ab7ac61dd29c6f21ba5b862f3730e37cfdc4fd806c22f221"},
		{[32]byte(unhex(t, "1c9240a5eb55d38af333888604f6b5f0473917c1402b80099dca5cbc207075c0")), [12]byte{11: 2}, 42, "'Twas brillig, and the slithy toves\nDid gyre and gimble in the wabe:\nAll mimsy were the borogoves,\nAnd the mome raths outgrabe.", "62e6347f95ed87a45ffae7426f27a1df5fb69110044c0d73118effa95b01e5cf166d3df2d721caf9b21e5fb14c616871fd84c54f9d65b283196c7fe4f60553ebf39c6402c42234e32a356b3e764312a61a5532055716ead6962568f87d3f3f7704c6a8d1bcd1bf4d50d6154b6da731b187b58dfd728afa36757a797ac188d1"},
	} {
		want := unhex(t, x.want)
		if got := Turn(x.key, x.nonce, x.counter, []byte(x.b)); !bytes.Equal(got, want) {
			t.Errorf("Turn of %q: %x, want %x", x.b, got, want)
		}
		if got := Turn(x.key, x.nonce, x.counter, want); string(got) != x.b {
			t.Errorf("turned back: %q, want %q", got, x.b)
		}
	}
}

// P4.2: bytes are joined with as many of the stream, at every length and counter.
func TestTurnOfEveryLength(t *testing.T) {
	key, nonce := [32]byte(text(32)), [12]byte(text(12))
	stream := referenceStream(key, nonce, 5, 65537)
	for _, n := range edgeSizes() {
		if got := Turn(key, nonce, 5, text(n)); !bytes.Equal(got, joined(text(n), stream)) {
			t.Errorf("Turn of %d bytes", n)
		}
		if got := Turn(key, nonce, 5, make([]byte, n)); !bytes.Equal(got, stream[:n]) {
			t.Errorf("Turn of %d bytes 0 is not the stream", n)
		}
	}
	for _, counter := range edgeCounters() {
		want := joined(text(150), referenceStream(key, nonce, counter, 150))
		if got := Turn(key, nonce, counter, text(150)); !bytes.Equal(got, want) {
			t.Errorf("Turn from %d on: %x, want %x", counter, got, want)
		}
	}
}

// P4.2: no bytes, nil or empty, stay none.
func TestTurnOfNothing(t *testing.T) {
	for _, counter := range edgeCounters() {
		for _, b := range [][]byte{nil, {}} {
			if got := Turn(risingKey(), [12]byte{1}, counter, b); len(got) != 0 {
				t.Errorf("Turn of no bytes: %x", got)
			}
		}
	}
}

// P4.2, P4.3: bytes behind the first 2^20 stay as they are; those ahead of them are turned.
func TestTurnOfMoreThanAStream(t *testing.T) {
	key, nonce := [32]byte(text(32)), [12]byte(text(12))
	for _, counter := range []uint32{0, math.MaxUint32 - 9} {
		stream := Stream(key, nonce, counter, most)
		for _, n := range []int{most - 1, most, most + 1, most + 63, most + 64, most + 65, 2*most + 7, 3 * most} {
			b := text(n)
			got := Turn(key, nonce, counter, b)
			if len(got) != n {
				t.Fatalf("Turn of %d bytes: %d bytes", n, len(got))
			}
			turned := min(n, most)
			if !bytes.Equal(got[:turned], joined(b[:turned], stream)) {
				t.Errorf("Turn of %d bytes: the first %d are wrong", n, turned)
			}
			if !bytes.Equal(got[turned:], b[turned:]) {
				t.Errorf("Turn of %d bytes: the last %d did not stay", n, n-turned)
			}
			if !bytes.Equal(Turn(key, nonce, counter, got), b) {
				t.Errorf("%d bytes that are turned twice", n)
			}
		}
	}
}

// P4.3: what is turned twice is as it was; once it is not, nor by other numbers.
func TestTurnedTwice(t *testing.T) {
	for i, counter := range edgeCounters() {
		key, nonce := [32]byte(text(32 + i)[i:]), Nonce(uint32(i), uint64(i)<<40)
		for _, n := range edgeSizes() {
			once := Turn(key, nonce, counter, text(n))
			if got := Turn(key, nonce, counter, once); !bytes.Equal(got, text(n)) {
				t.Errorf("%d bytes, turned twice from %d on", n, counter)
			}
			if n < 63 {
				continue
			}
			if bytes.Equal(once, text(n)) {
				t.Errorf("%d bytes stayed, from %d on", n, counter)
			}
			if bytes.Equal(Turn(key, nonce, counter+1, once), text(n)) || bytes.Equal(Turn(key, Nonce(99, 0), counter, once), text(n)) || bytes.Equal(Turn([32]byte{}, nonce, counter, once), text(n)) {
				t.Errorf("%d bytes were turned back by other numbers", n)
			}
		}
	}
}

// P4.2: a nonce is four bytes of the epoch and eight of the block, the lowest first.
func TestNonce(t *testing.T) {
	for _, x := range []struct {
		epoch uint32
		block uint64
		want  [12]byte
	}{
		{0, 0, [12]byte{}},
		{1, 2, [12]byte{1, 0, 0, 0, 2}},
		{2, 1, [12]byte{2, 0, 0, 0, 1}},
		{0x04030201, 0x0c0b0a0908070605, [12]byte{1, 2, 3, 4, 5, 6, 7, 8, 9, 10, 11, 12}},
		{math.MaxUint32, 0, [12]byte{255, 255, 255, 255}},
		{0, math.MaxUint64, [12]byte{0, 0, 0, 0, 255, 255, 255, 255, 255, 255, 255, 255}},
		{math.MaxUint32, math.MaxUint64, [12]byte{255, 255, 255, 255, 255, 255, 255, 255, 255, 255, 255, 255}},
		{0, math.MaxUint32, [12]byte{4: 255, 255, 255, 255}},
		{0, 1 << 32, [12]byte{8: 1}},
		{1 << 31, 1 << 63, [12]byte{3: 128, 11: 128}},
	} {
		if got := Nonce(x.epoch, x.block); got != x.want {
			t.Errorf("Nonce(%d, %d) = %v, want %v", x.epoch, x.block, got, x.want)
		}
	}
}

// P4.4: no two epochs and blocks have one nonce: both are read out of it again.
func TestNoTwoHaveOneNonce(t *testing.T) {
	epochs := append(edgeWords(), 2, 3, 1000)
	var blocks []uint64
	for _, x := range epochs {
		blocks = append(blocks, uint64(x), uint64(x)<<32, uint64(x)<<32|uint64(x), ^uint64(x))
	}
	type pair struct {
		epoch uint32
		block uint64
	}
	seen := map[[12]byte]pair{}
	for _, e := range epochs {
		for _, b := range blocks {
			n := Nonce(e, b)
			if binary.LittleEndian.Uint32(n[:]) != e || binary.LittleEndian.Uint64(n[4:]) != b {
				t.Fatalf("Nonce(%d, %d) = %v", e, b, n)
			}
			if other, ok := seen[n]; ok && other != (pair{e, b}) {
				t.Fatalf("%v and %v have the nonce %v", other, pair{e, b}, n)
			}
			seen[n] = pair{e, b}
		}
	}
}

// R4: what is handed in stays as it was, and so does the room behind it.
func TestListsAreTheCallers(t *testing.T) {
	key, nonce, w := [32]byte(text(32)), [12]byte(text(12)), [4]uint32{1, 2, 3, 4}
	for _, n := range []int{0, 1, 63, 64, 65, 4096, most, most + 1} {
		b := text(n + 100)
		got := Turn(key, nonce, 1, b[:n])
		if !bytes.Equal(b, text(n+100)) {
			t.Fatalf("a list of %d bytes was written", n)
		}
		clear(got[:cap(got)])
		if !bytes.Equal(b, text(n+100)) {
			t.Fatalf("an answer of %d bytes is the list that was handed in", n)
		}
	}
	Quarter(w)
	Block(key, nonce, 1)
	Stream(key, nonce, 1, 100)
	if key != [32]byte(text(32)) || nonce != [12]byte(text(12)) || w != [4]uint32{1, 2, 3, 4} {
		t.Error("what was handed in did not stay")
	}
}

// R3, R4: the same call answers the same, whatever was done with earlier answers and lists.
func TestAnswersAreTheCallers(t *testing.T) {
	key, nonce := [32]byte(text(32)), [12]byte(text(12))
	for _, n := range edgeSizes() {
		want := referenceStream(key, nonce, 3, n)
		stream := Stream(key, nonce, 3, n)
		clear(stream[:cap(stream)])
		b := text(n)
		turned := Turn(key, nonce, 3, b)
		clear(b)
		if !bytes.Equal(turned, joined(text(n), want)) {
			t.Fatalf("an answer of %d bytes turned with the list", n)
		}
		clear(turned[:cap(turned)])
		if !bytes.Equal(Stream(key, nonce, 3, n), want) || !bytes.Equal(Turn(key, nonce, 3, text(n)), joined(text(n), want)) {
			t.Fatalf("the same call of %d bytes, once more, answers another one", n)
		}
	}
}
