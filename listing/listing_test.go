package listing_test

import (
	"slices"
	"strings"
	"testing"

	"pintle/api"
	"pintle/inst"
	"pintle/listing"
	"pintle/text"
)

const example = "00001000: ffd10093  addi x1, x2, -3\n"

// P11.1
func TestShow(t *testing.T) {
	for i, x := range []struct {
		base  uint32
		words []uint32
		want  string
	}{
		{0x1000, []uint32{0xffd10093}, example},
		{5, nil, ""},
		{0xfffffffc, []uint32{0, 0x00100073, 0xffffffff}, "fffffffc: 00000000  .word\n00000000: 00100073  ebreak\n00000004: ffffffff  .word\n"},
		{0xabcdef01, []uint32{0x00c12403, 0x12345537}, "abcdef01: 00c12403  lw x8, 12(x2)\nabcdef05: 12345537  lui x10, 74565\n"},
	} {
		if got := listing.Show(x.base, x.words); got != x.want {
			t.Errorf("%d: %q", i, got)
		}
		base, words, err := listing.Parse(x.want)
		if x.words == nil {
			x.base = 0
		}
		if base != x.base || !slices.Equal(words, x.words) || err != api.OK {
			t.Error(i, base, words, err)
		}
	}
}

// P11.2
func TestParseWrong(t *testing.T) {
	next := "00001004: 00000000  .word\n"
	if base, words, err := listing.Parse(example + next); base != 0x1000 || len(words) != 2 || err != api.OK {
		t.Fatal(base, words, err)
	}
	for _, s := range []string{
		"\n", " ", "x", example + "\n", "\n" + example, example[:len(example)-1], example + next[:len(next)-1], example + example, next + example,
		"00001000: ffd10093  addi x1, x2, -4\n", "00001000: FFD10093  addi x1, x2, -3\n", "00001000: ffd10093  .word\n", "00001000: 00000000  \n", "00001000: 00000000  .word \n", "00001000: 00000000 .word\n", "00001000 : 00000000  .word\n", "1000: 00000000  .word\n",
		"0000g000: 00000000  .word\n", "00001000: 0000000z  .word\n", "00001000: 00000000  .word\r\n", "00001000; 00000000  .word\n", "00001000:\t00000000  .word\n", "00001000: 00000000  .Word\n", "\x00", "00001000: 0000\n", strings.Repeat("0", 50), "00001000: \n00000000  .word\n",
	} {
		if base, words, err := listing.Parse(s); base != 0 || len(words) != 0 || err != api.ErrForm {
			t.Errorf("%q: %x %x %v", s, base, words, err)
		}
	}
}

func some(n int) []uint32 {
	var l []uint32
	for w := uint32(n); len(l) < n; w = w*1664525 + 1013904223 {
		l = append(l, w^w>>13, w&^127|0x13)
	}
	return l[:n]
}

// P11.3
func TestThereAndBack(t *testing.T) {
	for n := range 200 {
		words := some(n)
		base := uint32(n) * 2654435761
		back, got, err := listing.Parse(listing.Show(base, words))
		if n > 0 && back != base || !slices.Equal(got, words) || err != api.OK {
			t.Fatal(n, back, got, err)
		}
	}
}

// P11.4
func TestByText(t *testing.T) {
	words := some(2000)
	for _, base := range []uint32{0, 0x12345678} {
		for n, s := range strings.Split(strings.TrimSuffix(listing.Show(base, words), "\n"), "\n") {
			_, told, _ := strings.Cut(s, "  ")
			if _, same, _ := strings.Cut(listing.Show(77, words[n:n+1]), "  "); same != told+"\n" {
				t.Error(s, same)
			}
			i, ok := inst.Decode(words[n])
			if !ok && told != ".word" {
				t.Error(s)
			}
			if back, _ := text.Parse(told); ok && back != i {
				t.Error(s)
			}
		}
	}
}
