package crc_test

import (
	"hash/crc32"
	"slices"
	"testing"

	"pintle/crc"
)

func some(n int) []byte {
	b := make([]byte, n)
	w := uint32(n)
	for i := range b {
		w = w*1664525 + 1013904223
		b[i] = byte(w >> 24)
	}
	return b
}

// bitwise is the sum as the chapter's words say it, bit by bit.
func bitwise(b []byte) uint32 {
	w := uint32(1<<32 - 1)
	for _, x := range b {
		w ^= uint32(x)
		for range 8 {
			low := w & 1
			w >>= 1
			if low == 1 {
				w ^= 0xedb88320
			}
		}
	}
	return ^w
}

// P8.1
func TestSum(t *testing.T) {
	if s := crc.Sum([]byte("123456789")); s != 0xcbf43926 {
		t.Errorf("%x", s)
	}
	if crc.Sum(nil) != 0 || crc.Sum([]byte{}) != 0 || crc.More(0x1234, nil) != 0x1234 {
		t.Error("of nothing")
	}
	for n := range 200 {
		b := some(n)
		kept := slices.Clone(b)
		if s := crc.Sum(b); s != bitwise(b) || s != crc32.ChecksumIEEE(b) {
			t.Errorf("%d: %x", n, s)
		}
		if !slices.Equal(b, kept) {
			t.Error("the bytes are changed")
		}
	}
	for x := range 256 {
		if b := []byte{byte(x)}; crc.Sum(b) != bitwise(b) {
			t.Error(x)
		}
	}
}

// P8.2
func TestInParts(t *testing.T) {
	b := some(60)
	for i := range 61 {
		if crc.More(crc.Sum(b[:i]), b[i:]) != crc.Sum(b) {
			t.Error(i)
		}
	}
}

// P8.3
func TestSpoilt(t *testing.T) {
	b := some(40)
	sum := crc.Sum(b)
	for at := range 37 {
		for n := uint32(1); n < 400; n++ {
			w := n * 2654435761
			if n < 33 {
				w = 1 << (n - 1)
			}
			c := slices.Clone(b)
			for i := range 4 {
				c[at+i] ^= byte(w >> (8 * i))
			}
			if crc.Sum(c) == sum {
				t.Fatal(at, w)
			}
		}
	}
}
