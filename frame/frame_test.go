package frame_test

import (
	"bytes"
	"encoding/binary"
	"hash/crc32"
	"slices"
	"strings"
	"testing"

	"tributary/api"
	"tributary/frame"
)

// framed answers the bytes that the chapter gives a frame which tells of n bytes and has s, by the library's means; n may be a lie, and s too long.
func framed(n uint32, s string) []byte {
	b := binary.LittleEndian.AppendUint32(nil, n)
	b = append(b, s...)
	return binary.LittleEndian.AppendUint32(b, crc32.Checksum(b, crc32.MakeTable(crc32.Castagnoli)))
}

// right answers the frame of s.
func right(s string) []byte { return framed(uint32(len(s)), s) }

// long answers n bytes, not all alike.
func long(n int) string {
	b := make([]byte, n)
	for i := range b {
		b[i] = byte(uint32(i) * 2654435761 >> 13)
	}
	return string(b)
}

// records are some of which frames are made: none, one byte, noughts, bytes that look like a frame, and lengths at which the first four bytes change.
func records() []string {
	return []string{
		"", "a", "ab", "\x00", "\x00\x00\x00\x00", "\x00\x00\x00\x00\x00\x00\x00\x00", "\xff\x80\xc3", "é",
		string(right("")), string(right("ab")), long(255), long(256), long(257), long(4096),
		long(api.MaxBytes - 1), long(api.MaxBytes),
	}
}

// refused asks One for an error.
func refused(t *testing.T, what string, b []byte, want api.Errno) {
	t.Helper()
	if x, e := frame.One(b); e != want || len(x) != 0 {
		t.Errorf("One of %s: %.40q, %v, want %v", what, x, e, want)
	}
}

// scans asks the whole of what Scan tells of b.
func scans(t *testing.T, what string, b []byte, place int, want ...string) {
	t.Helper()
	l, at := frame.Scan(b)
	if at != place || !slices.EqualFunc(l, want, func(x []byte, s string) bool { return string(x) == s }) {
		t.Errorf("Scan of %s: %d records, up to %d, want %d, up to %d: %.80q", what, len(l), at, len(want), place, l)
	}
}

func TestFrameByBytes(t *testing.T) {
	for s, want := range map[string]string{
		"":          "\x00\x00\x00\x00\xc7\x4b\x67\x48",
		"ab":        "\x02\x00\x00\x00ab\xad\x82\x65\x9f",
		"123456789": "\x09\x00\x00\x00123456789\x78\xd2\x17\x57",
	} {
		if b, e := frame.Frame([]byte(s)); string(b) != want || e != api.OK {
			t.Errorf("Frame(%q): %x %v, want %x", s, b, e, want)
		}
	}
	if b, e := frame.Frame(nil); string(b) != string(right("")) || e != api.OK {
		t.Errorf("Frame(nil): %x %v", b, e)
	}
}

func TestFrame(t *testing.T) {
	for _, s := range records() {
		if b, e := frame.Frame([]byte(s)); !bytes.Equal(b, right(s)) || e != api.OK {
			t.Errorf("Frame of %d bytes: %.40x %v, want %.40x", len(s), b, e, right(s))
		}
	}
}

func TestFrameOfTooMuch(t *testing.T) {
	for _, n := range []int{api.MaxBytes + 1, 1 << 16, 5 * api.MaxBytes, 1 << 24} {
		if b, e := frame.Frame(make([]byte, n)); len(b) != 0 || e != api.ErrLong {
			t.Errorf("Frame of %d bytes: %d bytes, %v", n, len(b), e)
		}
	}
}

func TestOne(t *testing.T) {
	for _, s := range records() {
		if x, e := frame.One(right(s)); string(x) != s || e != api.OK {
			t.Errorf("One of %d bytes: %.40q %v", len(s), x, e)
		}
	}
}

func TestOneOfAnotherLength(t *testing.T) {
	refused(t, "nil", nil, api.ErrForm)
	for _, s := range []string{"", "a", "abcdefgh", "\x00\x00\x00\x00\x00\x00\x00\x00"} {
		b := right(s)
		for n := range b {
			refused(t, "fewer bytes", b[:n], api.ErrForm)
		}
		refused(t, "one byte more", append(right(s), 0), api.ErrForm)
		refused(t, "two frames", append(right(s), b...), api.ErrForm)
	}
	for _, c := range []struct {
		n uint32
		s string
	}{
		{0, "a"}, {1, ""}, {1, "ab"}, {3, "ab"}, {10, "ab"}, // the sum is right, the number isn't
		{1 << 8, "a"}, {1 << 16, "a"}, {1 << 24, "a"}, {1<<32 - 1, "a"}, {1<<32 - 8, ""}, {1<<32 - 4, ""}, {1 << 31, ""},
		{1 << 9, "ab"}, {2 << 24, "ab"}, // the greatest first
	} {
		refused(t, "a number that isn't theirs", framed(c.n, c.s), api.ErrForm)
	}
}

func TestOneOfTooMuch(t *testing.T) {
	for _, n := range []int{api.MaxBytes + 1, api.MaxBytes + 8, 1 << 16, 1 << 20} {
		refused(t, "too many bytes", right(long(n)), api.ErrForm)
	}
}

func TestOneOfAnotherSum(t *testing.T) {
	table := crc32.MakeTable(crc32.Castagnoli)
	for _, s := range []string{"", "a", "ab", "123456789"} {
		b := right(s)
		ahead := b[:len(b)-4]
		for what, sum := range map[string][]byte{
			"the greatest first": binary.BigEndian.AppendUint32(nil, crc32.Checksum(ahead, table)),
			"turned round":       binary.LittleEndian.AppendUint32(nil, ^crc32.Checksum(ahead, table)),
			"of the record":      binary.LittleEndian.AppendUint32(nil, crc32.Checksum([]byte(s), table)),
			"another sum's":      binary.LittleEndian.AppendUint32(nil, crc32.ChecksumIEEE(ahead)),
			"noughts":            make([]byte, 4),
		} {
			if !bytes.Equal(sum, b[len(b)-4:]) {
				refused(t, what, slices.Concat(ahead, sum), api.ErrSum)
			}
		}
	}
}

// Where both apply, what is asked first is told: the form ahead of the sum.
func TestFormAheadOfSum(t *testing.T) {
	b := right("ab")
	b[9] ^= 1
	refused(t, "another sum", b, api.ErrSum)
	b[0] ^= 1
	refused(t, "another number, another sum", b, api.ErrForm)
	refused(t, "too many bytes, another sum", append(right(long(api.MaxBytes + 1))[:api.MaxBytes+8], 0), api.ErrForm)
}

// One byte of a frame another one: the number's are the form's, the others the sum's.
func TestOneByteAnotherOne(t *testing.T) {
	for _, s := range []string{"", "a", "ab", "\x00\x00\x00\x00", "\xff\xff\xff\xff\xff", string(right("ab"))} {
		b := right(s)
		for i := range b {
			for turn := 1; turn < 256; turn++ {
				b[i] ^= byte(turn)
				if i < 4 {
					refused(t, "another number", b, api.ErrForm)
				} else {
					refused(t, "another byte", b, api.ErrSum)
				}
				scans(t, "another byte", b, 0)
				b[i] ^= byte(turn)
			}
		}
	}
	b := right(long(api.MaxBytes))
	for _, i := range []int{4, 5, 30000, len(b) - 5, len(b) - 4, len(b) - 1} {
		b[i] ^= 0x80
		refused(t, "another byte of many", b, api.ErrSum)
		b[i] ^= 0x80
	}
}

func TestScan(t *testing.T) {
	scans(t, "nil", nil, 0)
	scans(t, "no bytes", []byte{}, 0)
	for _, s := range records() {
		scans(t, "one frame", right(s), len(s)+8, s)
	}
	var all []byte
	for n, s := range records() {
		all = append(all, right(s)...)
		scans(t, "frame behind frame", all, len(all), records()[:n+1]...)
	}
	scans(t, "the same ones", slices.Repeat(right("ab"), 1000), 10000, slices.Repeat([]string{"ab"}, 1000)...)
	scans(t, "empty ones", slices.Repeat(right(""), 1000), 8000, slices.Repeat([]string{""}, 1000)...)
}

func TestScanUpToWhereNoneStands(t *testing.T) {
	all := slices.Concat(right("ab"), right(""), right("cde"))
	turned := right("fg")
	turned[5] ^= 1
	for what, tail := range map[string][]byte{
		"a byte":                    {0},
		"seven bytes":               make([]byte, 7),
		"eight noughts":             make([]byte, 8), // a frame's number, and another sum
		"a frame but its end":       right("fg")[:9],
		"a number alone":            right("fg")[:4],
		"another sum":               turned,
		"more than are there":       framed(3, "fg"),
		"the most there may be":     framed(1<<32-1, "fg"),
		"round to the beginning":    framed(1<<32-8, ""),
		"fewer than are there":      framed(1, "fg"),
		"too many bytes":            right(long(api.MaxBytes + 1)),
		"too many bytes, long":      right(long(1 << 17)),
		"a frame behind what isn't": append([]byte{1}, right("fg")...),
		"a frame behind another":    append(turned, right("hi")...),
	} {
		scans(t, what, tail, 0)
		scans(t, "frames, and "+what, slices.Concat(all, tail), len(all), "ab", "", "cde")
	}
	for n := range all {
		switch b := all[:n]; {
		case n < 10:
			scans(t, "the first bytes", b, 0)
		case n < 18:
			scans(t, "the first bytes", b, 10, "ab")
		default:
			scans(t, "the first bytes", b, 18, "ab", "")
		}
	}
}

// A record that holds a frame is one record: what is in it isn't scanned.
func TestScanOfFramesInAFrame(t *testing.T) {
	in := slices.Concat(right("ab"), right("c"))
	out := right(string(in))
	scans(t, "frames in a frame", out, len(out), string(in))
	out[len(out)-1] ^= 1
	scans(t, "frames in what is none", out, 0)
}

func TestArgumentsStayAsTheyAre(t *testing.T) {
	room := slices.Concat(right("ab"), right("cd"), []byte(strings.Repeat("room", 9)))
	was := bytes.Clone(room)
	f, _ := frame.Frame(room[:10])
	x, _ := frame.One(room[:10])
	l, _ := frame.Scan(room[:20])
	_, _ = frame.One(room[:9])
	for _, b := range append(l, f, x) {
		clear(b[:cap(b)])
		_ = append(b[:0], "and more than there was"...)
	}
	if !bytes.Equal(room, was) {
		t.Errorf("the bytes that were handed in, or their spare room, are changed: %q", room)
	}
}

// What is told is new memory, its spare room too: it stays as it is when the bytes, or what was told beside it, change.
func TestAnswersStandAlone(t *testing.T) {
	room := slices.Concat(right("ab"), right(""), right("cd"), right("ef"))
	f, _ := frame.Frame([]byte("ab"))
	x, _ := frame.One(room[:10])
	l, _ := frame.Scan(room)
	if len(l) != 4 {
		t.Fatal(len(l), "records")
	}
	clear(room)
	clear(l[0][:cap(l[0])])
	clear(l[1][:cap(l[1])])
	l[2] = append(l[2], "more than there was"...)
	if string(f) != string(right("ab")) || string(x) != "ab" || string(l[3]) != "ef" || string(l[2][:2]) != "cd" {
		t.Errorf("%q %q %q", f, x, l)
	}
	same := right("ab")
	one, _ := frame.One(same)
	two, _ := frame.One(same)
	clear(one[:cap(one)])
	if string(two) != "ab" {
		t.Errorf("two answers share memory: %q", two)
	}
}

// What Frame made, One and Scan give back, whatever it is.
func TestThereAndBack(t *testing.T) {
	var all []byte
	var want []string
	for n := range 300 {
		s := long(n * 7)[n:]
		b, e := frame.Frame([]byte(s))
		if x, f := frame.One(b); string(x) != s || e != api.OK || f != api.OK {
			t.Fatalf("%d bytes: %v %v", len(s), e, f)
		}
		all = append(all, b...)
		want = append(want, s)
	}
	scans(t, "all of them", all, len(all), want...)
}
