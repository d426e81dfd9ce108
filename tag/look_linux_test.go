package tag

import (
	"bytes"
	"runtime/debug"
	"syscall"
	"testing"
)

// twoPages is memory of two pages: reading the one that is shut is a fault, which tells that it was looked at.
func twoPages(t *testing.T, shut int) (pages []byte, size int) {
	t.Helper()
	size = syscall.Getpagesize()
	pages, err := syscall.Mmap(-1, 0, 2*size, syscall.PROT_READ|syscall.PROT_WRITE, syscall.MAP_ANON|syscall.MAP_PRIVATE)
	if err != nil {
		t.Fatal("no pages of memory: ", err)
	}
	t.Cleanup(func() { syscall.Munmap(pages) })
	if err := syscall.Mprotect(pages[shut*size:(shut+1)*size], syscall.PROT_NONE); err != nil {
		t.Fatal("no page can be shut: ", err)
	}
	return pages, size
}

// answer takes what Same answers: the compiler may leave out the reads of a call whose answer nobody takes.
var answer bool

// faults tells whether Same of a and b reads what is shut.
func faults(a, b []byte) (fault bool) {
	defer debug.SetPanicOnFault(debug.SetPanicOnFault(true))
	defer func() { fault = recover() != nil }()
	answer = Same(a, b)
	return false
}

// P3.1: it looks at the last byte, whatever differs ahead of it.
func TestSameLooksAtLast(t *testing.T) {
	pages, size := twoPages(t, 1)
	for _, n := range []int{2, 3, 32, 65} {
		b := pages[size+1-n : size+1]
		for i := range n - 1 {
			a := make([]byte, n)
			a[i] = 1
			if !faults(a, b) || !faults(b, a) {
				t.Errorf("%d bytes: byte %d differs, and the last is not looked at", n, i)
			}
		}
		if !faults(bytes.Repeat([]byte{1}, n), b) {
			t.Errorf("%d bytes: all differ, and the last is not looked at", n)
		}
	}
}

// P3.1: it looks at the first byte, whatever differs behind it.
func TestSameLooksAtFirst(t *testing.T) {
	pages, size := twoPages(t, 0)
	for _, n := range []int{2, 3, 32, 65} {
		b := pages[size-1 : size-1+n]
		for i := 1; i < n; i++ {
			a := make([]byte, n)
			a[i] = 1
			if !faults(a, b) || !faults(b, a) {
				t.Errorf("%d bytes: byte %d differs, and the first is not looked at", n, i)
			}
		}
	}
}

// P3.1: it looks at all bytes of lists of different lengths too, those behind the shorter one's end among them.
func TestSameLooksAtLonger(t *testing.T) {
	pages, size := twoPages(t, 1)
	for _, n := range []int{2, 3, 32, 65} {
		b := pages[size+1-n : size+1]
		for short := range n {
			a := make([]byte, short)
			if !faults(a, b) || !faults(b, a) {
				t.Errorf("%d bytes and %d: the last is not looked at", n, short)
			}
		}
		longer := make([]byte, n+5)
		if !faults(longer, b) || !faults(b, longer) {
			t.Errorf("%d bytes and %d: the shorter one's last is not looked at", n, n+5)
		}
	}
}

// Behind b's end nothing is looked at, its spare room least of all.
func TestSameLooksNoFurther(t *testing.T) {
	pages, size := twoPages(t, 1)
	b := pages[size-32 : size]
	for _, n := range []int{0, 31, 32, 33, 100} {
		if faults(make([]byte, n), b) || faults(b, make([]byte, n)) {
			t.Errorf("32 bytes and %d: what lies behind is looked at", n)
		}
	}
}
