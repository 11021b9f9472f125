package wrap

import (
	"bytes"
	"crypto/hmac"
	"crypto/pbkdf2"
	"crypto/sha256"
	"encoding/binary"
	"encoding/hex"
	"math"
	"math/rand"
	"testing"

	"carling/api"
	"carling/cipher"
	"carling/stretch"
)

// unhex is the 32 bytes that a text of digits tells.
func unhex(t *testing.T, s string) [32]byte {
	t.Helper()
	b, err := hex.DecodeString(s)
	if err != nil || len(b) != 32 {
		t.Fatalf("%q: %d bytes, %v", s, len(b), err)
	}
	return [32]byte(b)
}

// text is n bytes that tell k, none of them 0: of two passphrases that differ by bytes 0 behind, layer 2 makes the same macs.
func text(n, k int) []byte {
	b := make([]byte, n)
	for i := range b {
		b[i] = byte((i*7+k*31)%251 + 1)
	}
	return b
}

func salt(k int) [16]byte {
	return [16]byte(text(16, k))
}

func master(k int) [32]byte {
	return [32]byte(text(32, k))
}

// passes are passphrases of many lengths, at and beside those that layers 1 and 2 part them by.
func passes() [][]byte {
	l := [][]byte{nil, {}, {0xff}, []byte("pass\x00word")}
	for _, n := range []int{1, 2, 8, 31, 32, 33, 55, 56, 63, 64, 65, 128, 1000} {
		l = append(l, text(n, n))
	}
	return l
}

// wrongRounds are numbers of rounds that may not be; layer 3 takes some of them, and the lowest bits of some would do.
func wrongRounds() []int {
	return []int{math.MinInt, math.MinInt + 1, -1 << 32, -1<<32 + 1, -256 + 1, -100, -2, -1, 0, 101, 102, 128, 255, 256, 257, 1000, 9999, 10000, 10001, 65536 + 1, 1 << 32, 1<<32 + 1, 1<<32 + 100, math.MaxInt}
}

// wantWrapped is a wrapped key by the library's keys and macs, and layer 4.
func wantWrapped(t *testing.T, pass []byte, salt [16]byte, rounds int, master [32]byte) Wrapped {
	t.Helper()
	key, err := pbkdf2.Key(sha256.New, string(pass), salt[:], rounds, 64)
	if err != nil {
		t.Fatal(err)
	}
	turned := cipher.Turn([32]byte(key[:32]), [12]byte{}, 0, master[:])
	h := hmac.New(sha256.New, key[32:])
	h.Write(salt[:])
	h.Write(binary.LittleEndian.AppendUint32(nil, uint32(rounds)))
	h.Write(turned)
	return Wrapped{Salt: salt, Rounds: rounds, Key: [32]byte(turned), Check: [32]byte(h.Sum(nil))}
}

func mustWrap(t *testing.T, pass []byte, salt [16]byte, rounds int, master [32]byte) Wrapped {
	t.Helper()
	w, e := Wrap(pass, salt, rounds, master)
	if e != api.OK {
		t.Fatalf("Wrap by %x, %x, %d rounds: %v", pass, salt, rounds, e)
	}
	return w
}

// wantUnwrap fails if a wrapped key is refused, or another one is answered.
func wantUnwrap(t *testing.T, pass []byte, w Wrapped, want [32]byte) {
	t.Helper()
	if k, e := Unwrap(pass, w); k != want || e != api.OK {
		t.Fatalf("Unwrap by %x of %+v: %x, %v, want %x", pass, w, k, e, want)
	}
}

// wantNoUnwrap fails if a wrapped key is opened, or wrapped again, or refused by another error; what is answered beside it is to be nothing.
func wantNoUnwrap(t *testing.T, pass []byte, w Wrapped, want api.Errno) {
	t.Helper()
	if k, e := Unwrap(pass, w); k != ([32]byte{}) || e != want {
		t.Fatalf("Unwrap by %x of %+v: %x, %v, want %v", pass, w, k, e, want)
	}
	if a, e := Again(pass, text(5, 5), salt(5), w); a != (Wrapped{}) || e != want {
		t.Fatalf("Again by %x of %+v: %+v, %v, want %v", pass, w, a, e, want)
	}
}

// P10.1, P10.2: halves and wrapped keys that other programs made.
func TestWrappedByOthers(t *testing.T) {
	var counted [32]byte
	long := make([]byte, 256)
	for i := range long {
		long[i] = byte(i)
		counted[i%32] = byte(i % 32)
	}
	for _, c := range []struct {
		pass                            []byte
		salt                            [16]byte
		rounds                          int
		master                          [32]byte
		turning, checking, wrapped, sum string
	}{
		{nil, [16]byte{}, 1, [32]byte{},
			"c8c2ef93624f53f746ad5664441f9e04f1dde6c84f8f0a06689d9f4ef61ec1bd", "24935b3d1cf008741f74e3a19c6a9a474afb3f39f4f053641f8c033a6d11cb6c",
			"c22f5502ee0def6260d6d7ea4e63020aacc12c67ea2c4a16b8b73c537bf48ccd", "2aedd59d1fb2823c6fa79aed3d8d180ce365bd53332c946f2c4a83f5db6173f4"},
		{[]byte("p"), [16]byte{1}, 2, [32]byte{9},
			"c2655f774cdfd9fb578f28c553a18fca23ab3585d57faafeacfaf13901c61c7a", "5910f44ae1c6b2e4edfa3f39e877a5207f7dfbe0f2f028f36e97473ccd850e76",
			"3f0d3a6056485368372b85fac4217aef5f21c30bbf5a40e34f0c9dd80eb33c5c", "a085b14b52763f67fd557222b61f3d32b3c90ead8d759658358386d3599bc93f"},
		{[]byte("correct horse battery staple"), [16]byte(counted[:16]), 7, counted,
			"aeb695a7e1e1e28980c6ba2aae3131cfd63cd16b40e6917912283052ccb0b248", "41fe15d954037dde21454615281b4357c4253bf2c95cf5dfa5a99bc5914c1174",
			"7153ea89e0a148ab432f1f864b223e08dc49b0ec21a9a35cfd17bdfe17a7e7d0", "437c4b81985aec465ee94b1151245309bd43ab4e4e125fa3d479e611a7584cb5"},
		{long, [16]byte(bytes.Repeat([]byte{255}, 16)), 100, unhex(t, "fffefdfcfbfaf9f8f7f6f5f4f3f2f1f0efeeedecebeae9e8e7e6e5e4e3e2e1e0"),
			"8d355d8d9369953d33d2972f09c7781349e7363ec1752a92925b06dd830fff97", "198a5cdb2bda8796614016b0878d9e55862d3382523cdc73de98d89476e5f3ab",
			"6d9bfc4a5814e8b20fcc8660cbe09226fae7cf0fb6e5d125c6f4cf1dfda228c1", "8d4326fe19d47b3f5b599335c59b51b19c8f63426447f0b7253972bcb90c9939"},
	} {
		a, b, e := Halves(c.pass, c.salt, c.rounds)
		if a != unhex(t, c.turning) || b != unhex(t, c.checking) || e != api.OK {
			t.Errorf("Halves of %q, %d rounds: %x, %x, %v, want %s, %s", c.pass, c.rounds, a, b, e, c.turning, c.checking)
		}
		want := Wrapped{Salt: c.salt, Rounds: c.rounds, Key: unhex(t, c.wrapped), Check: unhex(t, c.sum)}
		if w, e := Wrap(c.pass, c.salt, c.rounds, c.master); w != want || e != api.OK {
			t.Errorf("Wrap by %q, %d rounds: %+v, %v, want %+v", c.pass, c.rounds, w, e, want)
		}
		wantUnwrap(t, c.pass, want, c.master)
	}
}

// P10.1: of as many rounds as there may be, and any passphrase, both halves are layer 3's key of 64 bytes.
func TestHalves(t *testing.T) {
	check := func(pass []byte, salt [16]byte, rounds int) {
		t.Helper()
		key, _ := stretch.Key(pass, salt[:], rounds, 64)
		a, b, e := Halves(pass, salt, rounds)
		if e != api.OK || !bytes.Equal(append(a[:], b[:]...), key) {
			t.Fatalf("Halves of %x, %x, %d rounds: %x, %x, %v, want %x", pass, salt, rounds, a, b, e, key)
		}
	}
	for rounds := 1; rounds <= 100; rounds++ {
		check(text(9, 1), salt(2), rounds)
	}
	for i, pass := range passes() {
		for _, rounds := range []int{1, 2, 99, 100} {
			check(pass, salt(i), rounds)
		}
		check(pass, [16]byte{}, 3)
	}
}

// P10.1, and the chapter's example: rounds that are not from 1 to 100 are refused, and nothing stands beside the error.
func TestRefusedRounds(t *testing.T) {
	for _, rounds := range wrongRounds() {
		for _, pass := range passes() {
			if a, b, e := Halves(pass, salt(1), rounds); a != ([32]byte{}) || b != ([32]byte{}) || e != api.ErrArg {
				t.Errorf("Halves of %d rounds: %x, %x, %v", rounds, a, b, e)
			}
			if w, e := Wrap(pass, salt(1), rounds, master(1)); w != (Wrapped{}) || e != api.ErrArg {
				t.Errorf("Wrap of %d rounds: %+v, %v", rounds, w, e)
			}
		}
	}
}

// P10.1: a wrapped key has its salt and rounds, the master key turned by the first half, and the mac of all three by the other one.
func TestWrap(t *testing.T) {
	check := func(pass []byte, salt [16]byte, rounds int, master [32]byte) {
		t.Helper()
		want := wantWrapped(t, pass, salt, rounds, master)
		if w := mustWrap(t, pass, salt, rounds, master); w != want {
			t.Fatalf("Wrap by %x, %x, %d rounds: %+v, want %+v", pass, salt, rounds, w, want)
		}
	}
	for rounds := 1; rounds <= 100; rounds++ {
		check(text(9, 1), salt(2), rounds, master(3))
	}
	for i, pass := range passes() {
		check(pass, salt(i), 100-i, master(i+1))
		check(pass, [16]byte{}, 1, [32]byte{})
	}
}

// P10.1: the turned key is by Halves' first half alone, the nonce of the epoch 0 and the block 0, and the counter 0.
func TestWrapTurnsByTheFirstHalf(t *testing.T) {
	for _, k := range []int{1, 2, 3} {
		first, _, _ := Halves(text(k, k), salt(k), 10*k)
		m := master(k)
		want := cipher.Turn(first, cipher.Nonce(0, 0), 0, m[:])
		if w := mustWrap(t, text(k, k), salt(k), 10*k, m); !bytes.Equal(w.Key[:], want) {
			t.Errorf("Wrap: the key %x, want %x", w.Key, want)
		}
	}
}

// P10.3: what is wrapped is unwrapped by the same passphrase.
func TestUnwrap(t *testing.T) {
	for i, pass := range passes() {
		for _, rounds := range []int{1, 2, 50, 100} {
			wantUnwrap(t, pass, mustWrap(t, pass, salt(i), rounds, master(i+1)), master(i+1))
			wantUnwrap(t, pass, mustWrap(t, pass, [16]byte{}, rounds, [32]byte{}), [32]byte{})
		}
	}
	wantUnwrap(t, []byte{}, mustWrap(t, nil, salt(1), 3, master(1)), master(1))
	wantUnwrap(t, nil, mustWrap(t, []byte{}, salt(1), 3, master(1)), master(1))
}

// P10.3, P10.4: of any passphrases, salts and master keys.
func TestUnwrapOfAny(t *testing.T) {
	r := rand.New(rand.NewSource(10))
	some := func(n int) []byte {
		b := make([]byte, n)
		r.Read(b)
		return b
	}
	for range 500 {
		old, pass := some(r.Intn(80)), some(r.Intn(80))
		m, rounds := [32]byte(some(32)), 1+r.Intn(100)
		w := mustWrap(t, old, [16]byte(some(16)), rounds, m)
		wantUnwrap(t, old, w, m)
		a, e := Again(old, pass, [16]byte(some(16)), w)
		if e != api.OK {
			t.Fatalf("Again: %v", e)
		}
		wantUnwrap(t, pass, a, m)
	}
}

// P10.2: a wrapped key of rounds that are none: ErrArg, ahead of ErrKey, whatever its check is.
func TestUnwrapRefusesRounds(t *testing.T) {
	right := mustWrap(t, text(4, 1), salt(1), 1, master(1))
	for _, rounds := range wrongRounds() {
		w := right
		w.Rounds = rounds
		wantNoUnwrap(t, text(4, 1), w, api.ErrArg)
		wantNoUnwrap(t, text(4, 2), w, api.ErrArg)
		wantNoUnwrap(t, nil, Wrapped{Rounds: rounds}, api.ErrArg)
	}
	wantNoUnwrap(t, nil, Wrapped{}, api.ErrArg)
	for _, rounds := range []int{101, 257, 10000} { // layer 3 takes them: even a check that is right by it doesn't help
		wantNoUnwrap(t, text(4, 1), wantWrapped(t, text(4, 1), salt(1), rounds, master(1)), api.ErrArg)
	}
}

// P10.2: another passphrase opens nothing.
func TestUnwrapByAnother(t *testing.T) {
	w := mustWrap(t, []byte("pass"), salt(1), 3, master(1))
	for _, pass := range []string{"", "p", "pas", "Pass", "pasS", "passs", "pass ", " pass", "ssap", "word", "pass\x00s", "\x00pass"} {
		wantNoUnwrap(t, []byte(pass), w, api.ErrKey)
	}
	for i, p := range passes() {
		w := mustWrap(t, p, salt(1), 3, master(1))
		for k, o := range passes() {
			if i > 1 && k > 1 && i != k { // the first two are the same, and no two others
				wantNoUnwrap(t, o, w, api.ErrKey)
			}
		}
	}
	wantNoUnwrap(t, nil, Wrapped{Rounds: 1}, api.ErrKey)
}

// P10.2: one bit of a wrapped key turned, or other rounds: its check is another one.
func TestUnwrapOfTurnedBits(t *testing.T) {
	pass := text(12, 1)
	right := mustWrap(t, pass, salt(1), 2, master(1))
	for i := range 256 {
		at, bit := i/8, byte(1)<<(i%8)
		for _, part := range []func(w *Wrapped) []byte{
			func(w *Wrapped) []byte { return w.Key[:] },
			func(w *Wrapped) []byte { return w.Check[:] },
			func(w *Wrapped) []byte { return w.Salt[:] },
		} {
			w := right
			if b := part(&w); at < len(b) {
				b[at] ^= bit
				wantNoUnwrap(t, pass, w, api.ErrKey)
			}
		}
	}
	for rounds := 1; rounds <= 100; rounds++ {
		w := right
		if w.Rounds = rounds; rounds != right.Rounds {
			wantNoUnwrap(t, pass, w, api.ErrKey)
		}
	}
	w := right
	w.Check = [32]byte{}
	wantNoUnwrap(t, pass, w, api.ErrKey)
	wantUnwrap(t, pass, right, master(1))
}

// P10.2: the check is of the turned key, and is the passphrase's: a key that another passphrase turned is refused, one that was checked anew is taken.
func TestUnwrapOfMixedParts(t *testing.T) {
	one := mustWrap(t, text(5, 1), salt(1), 4, master(1))
	two := mustWrap(t, text(5, 2), salt(1), 4, master(1))
	three := mustWrap(t, text(5, 1), salt(1), 4, master(3))
	for _, w := range []Wrapped{
		{one.Salt, one.Rounds, two.Key, one.Check},
		{one.Salt, one.Rounds, one.Key, two.Check},
		{one.Salt, one.Rounds, two.Key, two.Check},
		{one.Salt, one.Rounds, three.Key, one.Check},
		{one.Salt, one.Rounds, one.Key, three.Check},
	} {
		wantNoUnwrap(t, text(5, 1), w, api.ErrKey)
	}
	wantUnwrap(t, text(5, 1), Wrapped{one.Salt, one.Rounds, three.Key, three.Check}, master(3))
}

// P10.2, P10.4: what is wrapped again is the same master key, wrapped by the new passphrase and salt, in as many rounds; the old one opens nothing of it.
func TestAgain(t *testing.T) {
	for i, old := range passes() {
		for k, pass := range [][]byte{nil, []byte("new"), text(70, 70), old} {
			w := mustWrap(t, old, salt(i), 1+i*6%100, master(i))
			a, e := Again(old, pass, salt(i+k), w)
			if want := wantWrapped(t, pass, salt(i+k), w.Rounds, master(i)); a != want || e != api.OK {
				t.Fatalf("Again by %x: %+v, %v, want %+v", pass, a, e, want)
			}
			wantUnwrap(t, pass, a, master(i))
			if len(old) != len(pass) {
				wantNoUnwrap(t, old, a, api.ErrKey)
			}
			wantUnwrap(t, old, w, master(i))
		}
	}
}

// P10.4: again and again, and back.
func TestAgainAndBack(t *testing.T) {
	first := mustWrap(t, text(3, 0), salt(0), 100, master(7))
	w := first
	for k := range 10 {
		next, e := Again(text(3, k), text(3, k+1), salt(k+1), w)
		if e != api.OK || next == w || next.Rounds != 100 || next.Salt != salt(k+1) {
			t.Fatalf("Again: %+v, %v", next, e)
		}
		wantNoUnwrap(t, text(3, k), next, api.ErrKey)
		w = next
	}
	if back, e := Again(text(3, 10), text(3, 0), salt(0), w); back != first || e != api.OK {
		t.Fatalf("Again by the first one: %+v, %v, want %+v", back, e, first)
	}
}

// R3, R4: no call writes into a passphrase, or behind it, or keeps it; the same calls answer the same.
func TestArgumentsStay(t *testing.T) {
	for _, n := range []int{0, 1, 31, 64, 65} {
		old, pass := text(n+9, 1), text(n+9, 2)
		w := mustWrap(t, old[:n], salt(1), 2, master(1))
		a, e := Again(old[:n], pass[:n], salt(2), w)
		if e != api.OK {
			t.Fatal(e)
		}
		Halves(old[:n], salt(1), 2)
		wantUnwrap(t, pass[:n], a, master(1))
		if !bytes.Equal(old, text(n+9, 1)) || !bytes.Equal(pass, text(n+9, 2)) {
			t.Fatalf("passphrases of %d bytes were written: %x, %x", n, old, pass)
		}
		clear(old)
		clear(pass)
		if w != mustWrap(t, text(n, 1), salt(1), 2, master(1)) {
			t.Fatalf("Wrap once more by %d bytes: another one", n)
		}
		wantUnwrap(t, text(n, 2), a, master(1))
	}
}
