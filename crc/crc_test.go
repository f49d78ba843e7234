package crc_test

import (
	"bytes"
	"hash/crc32"
	"slices"
	"strings"
	"testing"

	"tributary/crc"
)

// sums answers bytes whose sums are known: the chapter's, and those that are published for this polynomial.
func sums() map[string]uint32 {
	up := make([]byte, 32)
	for i := range up {
		up[i] = byte(i)
	}
	down := slices.Clone(up)
	slices.Reverse(down)
	return map[string]uint32{
		"":                         0,
		"123456789":                0xe3069283,
		"a":                        0xc1d04330,
		strings.Repeat("\x00", 32): 0x8a9136aa,
		strings.Repeat("\xff", 32): 0x62a8ab43,
		string(up):                 0x46dd794e,
		string(down):               0x113fdb5c,
	}
}

func reversed(s string) string {
	b := []byte(s)
	slices.Reverse(b)
	return string(b)
}

// same asks CRC and Hash for the sum of the same bytes.
func same(t *testing.T, s string, want uint32) {
	t.Helper()
	if got := crc.CRC([]byte(s)); got != want {
		t.Errorf("CRC of %.40q: %08x, want %08x", s, got, want)
	}
	if got := crc.Hash(reversed(s)); got != want {
		t.Errorf("Hash of %.40q, its bytes turned round: %08x, want %08x", s, got, want)
	}
}

func TestKnownSums(t *testing.T) {
	for s, want := range sums() {
		same(t, s, want)
	}
}

func TestOfNothing(t *testing.T) {
	if crc.CRC(nil) != 0 || crc.CRC([]byte{}) != 0 || crc.Hash("") != 0 {
		t.Errorf("%x %x %x", crc.CRC(nil), crc.CRC([]byte{}), crc.Hash(""))
	}
}

// The library's sums of the same polynomial, written otherwise, are the same.
func TestAsTheLibrarys(t *testing.T) {
	table := crc32.MakeTable(crc32.Castagnoli)
	for x := range 256 {
		for y := range 256 {
			s := string([]byte{byte(x), byte(y)})
			same(t, s, crc32.Checksum([]byte(s), table))
			same(t, s[:1], crc32.Checksum([]byte(s[:1]), table))
		}
	}
	b := make([]byte, 70000)
	for i := range b {
		b[i] = byte(uint32(i) * 2654435761 >> 13)
	}
	for _, n := range []int{3, 4, 7, 8, 9, 255, 256, 257, 4096, 60000, 60008, len(b)} {
		same(t, string(b[:n]), crc32.Checksum(b[:n], table))
	}
}

// Hash goes from the last byte to the first one, whatever runes they make.
func TestHashTurnsBytesRound(t *testing.T) {
	for _, s := range []string{"ab", "ba", "aab", "é", "né\xc3", "\xff\x80", "\x00a", "a\x00", "日本", "aba"} {
		if got, want := crc.Hash(s), crc.CRC([]byte(reversed(s))); got != want {
			t.Errorf("Hash(%q): %08x, want %08x", s, got, want)
		}
	}
	if crc.Hash("987654321") != 0xe3069283 || crc.Hash("ab") == crc.CRC([]byte("ab")) {
		t.Errorf("%08x %08x", crc.Hash("987654321"), crc.Hash("ab"))
	}
}

func TestEachByteTells(t *testing.T) {
	b := []byte("what is said, and its sum")
	seen := map[uint32]int{crc.CRC(b): -1}
	for i := range b {
		for bit := range 8 {
			b[i] ^= 1 << bit
			sum := crc.CRC(b)
			if at, has := seen[sum]; has {
				t.Errorf("bit %d of byte %d: %08x, as at byte %d", bit, i, sum, at)
			}
			seen[sum] = i
			b[i] ^= 1 << bit
		}
	}
}

func TestCRCLeavesItsBytes(t *testing.T) {
	room := []byte("123456789 and more")
	was := bytes.Clone(room)
	for range 2 {
		if sum := crc.CRC(room[:9]); sum != 0xe3069283 {
			t.Errorf("%08x", sum)
		}
	}
	if !bytes.Equal(room, was) {
		t.Errorf("the bytes that were handed in, or their spare room, are changed: %q", room)
	}
}
