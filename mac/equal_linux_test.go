package mac

import (
	"runtime/debug"
	"syscall"
	"testing"
)

// guardedPages are three pages, of which the first and the last one can't be looked at.
func guardedPages(t *testing.T) (pages []byte, page int) {
	t.Helper()
	page = syscall.Getpagesize()
	pages, err := syscall.Mmap(-1, 0, 3*page, syscall.PROT_READ|syscall.PROT_WRITE, syscall.MAP_ANON|syscall.MAP_PRIVATE)
	if err != nil {
		t.Fatal(err)
	}
	t.Cleanup(func() { syscall.Munmap(pages) })
	for _, at := range []int{0, 2 * page} {
		if err := syscall.Mprotect(pages[at:at+page], syscall.PROT_NONE); err != nil {
			t.Fatal(err)
		}
	}
	return pages, page
}

// answered keeps an answer: what is called for nothing may be left out by the compiler.
var answered bool

// looks tells whether Equal looks at a byte that can't be looked at.
func looks(a, b []byte) (did bool) {
	defer debug.SetPanicOnFault(debug.SetPanicOnFault(true))
	defer func() { did = recover() != nil }()
	answered = Equal(a, b)
	return false
}

// P2.2: every byte is looked at, though one at the other end is unlike. A
// byte that is looked at can't be told from one that is not by the answer:
// the last one, or the first one, is laid where to look at it is a fault.
func TestEqualLooksAtEveryByte(t *testing.T) {
	pages, page := guardedPages(t)
	inside := pages[page : 2*page]
	for n := 2; n <= 130; n++ {
		other := make([]byte, n)
		for i := range n {
			clear(inside)
			clear(other)
			other[i] = 1
			last := pages[2*page-n+1 : 2*page+1]
			first := pages[page-1 : page+n-1]
			if i < n-1 && (!looks(last, other) || !looks(other, last)) {
				t.Fatalf("byte %d of %d is unlike: the last one is not looked at", i, n)
			}
			if i > 0 && (!looks(first, other) || !looks(other, first)) {
				t.Fatalf("byte %d of %d is unlike: the first one is not looked at", i, n)
			}
		}
		if looks(inside[:n], other) || looks(other, inside[page-n:]) {
			t.Fatalf("of %d bytes, ones that are not theirs are looked at", n)
		}
	}
}
