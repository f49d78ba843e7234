package codec_test

import (
	"bytes"
	"math"
	"strings"
	"testing"

	"tributary/api"
	"tributary/codec"
)

// ended answers what o has, which isn't too much.
func ended(t *testing.T, o *codec.Out) []byte {
	t.Helper()
	b, e := o.End()
	if e != api.OK {
		t.Fatal("End:", e)
	}
	return b
}

func num(t *testing.T, v int64) []byte {
	t.Helper()
	var o codec.Out
	o.Num(v)
	return ended(t, &o)
}

func text(t *testing.T, s string) []byte {
	t.Helper()
	var o codec.Out
	o.Text(s)
	return ended(t, &o)
}

// bad asks the whole of an In that is bad: it has nothing, and stays so.
func bad(t *testing.T, what any, i *codec.In) {
	t.Helper()
	for range 2 {
		if !i.Bad() || i.Done() || i.Left() != 0 || i.Num(math.MaxInt64) != 0 || i.Text(math.MaxInt) != "" {
			t.Errorf("%v: it isn't bad: %v %v %d", what, i.Bad(), i.Done(), i.Left())
		}
	}
}

// left asks an In of which n bytes are left.
func left(t *testing.T, what any, i *codec.In, n int) {
	t.Helper()
	if i.Bad() || i.Left() != n || i.Done() != (n == 0) {
		t.Errorf("%v: bad %v, left %d, done %v; want %d left", what, i.Bad(), i.Left(), i.Done(), n)
	}
}

// numbers are some numbers and their bytes: both sides of each place at which one byte more is needed.
func numbers() map[int64]string {
	return map[int64]string{
		0: "\x00", -1: "\x01", 1: "\x02", -2: "\x03", 2: "\x04",
		150: "\xac\x02", // the chapter's
		63:  "\x7e", -64: "\x7f", 64: "\x80\x01", -65: "\x81\x01",
		1<<13 - 1: "\xfe\x7f", -1 << 13: "\xff\x7f", 1 << 13: "\x80\x80\x01", -1<<13 - 1: "\x81\x80\x01",
		api.MaxDot: "\x80\x80\x80\x80\x80\x40", -api.MaxInc: "\xff\xff\xff\xff\xff\x3f",
		1<<62 - 1: "\xfe\xff\xff\xff\xff\xff\xff\xff\x7f", -1 << 62: "\xff\xff\xff\xff\xff\xff\xff\xff\x7f",
		1 << 62: "\x80\x80\x80\x80\x80\x80\x80\x80\x80\x01", -1<<62 - 1: "\x81\x80\x80\x80\x80\x80\x80\x80\x80\x01",
		math.MaxInt64: "\xfe\xff\xff\xff\xff\xff\xff\xff\xff\x01", math.MinInt64: "\xff\xff\xff\xff\xff\xff\xff\xff\xff\x01",
	}
}

func TestOutNum(t *testing.T) {
	for v, want := range numbers() {
		if b := num(t, v); string(b) != want {
			t.Errorf("Num(%d): %x, want %x", v, b, want)
		}
	}
}

func TestOutText(t *testing.T) {
	for s, want := range map[string]string{
		"":                      "\x00",
		"a":                     "\x02a",
		"ab":                    "\x04ab",
		"\x00\xff\x80":          "\x06\x00\xff\x80", // bytes, whatever they are
		"é":                     "\x04\xc3\xa9",     // two of them
		strings.Repeat("x", 63): "\x7e" + strings.Repeat("x", 63),
		strings.Repeat("x", 64): "\x80\x01" + strings.Repeat("x", 64),
	} {
		if b := text(t, s); string(b) != want {
			t.Errorf("Text(%q): %x, want %x", s, b, want)
		}
	}
}

func TestEnd(t *testing.T) {
	var o codec.Out
	if b := ended(t, &o); len(b) != 0 {
		t.Errorf("the zero Out has bytes: %x", b)
	}
	o.Num(-1)
	o.Text("ab")
	o.Num(150)
	for range 2 {
		if b := ended(t, &o); string(b) != "\x01\x04ab\xac\x02" {
			t.Errorf("%x", b)
		}
	}
	o.Text("") // an Out goes on behind its End
	if b := ended(t, &o); string(b) != "\x01\x04ab\xac\x02\x00" {
		t.Errorf("going on: %x", b)
	}
}

// What End tells is new memory, its spare room too.
func TestEndStandsAlone(t *testing.T) {
	var o codec.Out
	o.Text("abc")
	one := ended(t, &o)
	clear(one[:cap(one)])
	two := ended(t, &o)
	o.Num(7)
	three := ended(t, &o)
	_ = append(two, 9)
	if string(two) != "\x06abc" || string(three) != "\x06abc\x0e" || !bytes.Equal(ended(t, &o), three) {
		t.Errorf("%x %x", two, three)
	}
}

// full answers an Out of n bytes.
func full(t *testing.T, n int) *codec.Out {
	t.Helper()
	var o codec.Out
	for range n {
		o.Num(1)
	}
	return &o
}

func TestEndOfTooMuch(t *testing.T) {
	o := full(t, api.MaxBytes)
	if b := ended(t, o); len(b) != api.MaxBytes || strings.Trim(string(b), "\x02") != "" {
		t.Error("just so many:", len(b))
	}
	for what, more := range map[string]func(o *codec.Out){
		"one byte":           func(o *codec.Out) { o.Num(0) },
		"a number":           func(o *codec.Out) { o.Num(math.MinInt64) },
		"no text":            func(o *codec.Out) { o.Text("") },
		"a text":             func(o *codec.Out) { o.Text("ab") },
		"a text too long":    func(o *codec.Out) { o.Text(strings.Repeat("x", api.MaxBytes+1)) },
		"more than one call": func(o *codec.Out) { o.Num(1); o.Text("a"); o.Num(2) },
	} {
		o := full(t, api.MaxBytes)
		more(o)
		for range 2 {
			if b, e := o.End(); e != api.ErrLong || len(b) != 0 {
				t.Errorf("%s more: %d bytes, %v", what, len(b), e)
			}
			o.Num(0) // it never has fewer again
		}
	}
}

func TestEndOfTextsAtTheLimit(t *testing.T) {
	for _, c := range []struct {
		has, text int
		want      api.Errno
	}{
		{0, api.MaxBytes - 3, api.OK}, {0, api.MaxBytes - 2, api.ErrLong},
		{1, api.MaxBytes - 4, api.OK}, {1, api.MaxBytes - 3, api.ErrLong},
		{api.MaxBytes - 1, 0, api.OK}, {api.MaxBytes - 1, 1, api.ErrLong},
		{api.MaxBytes - 2, 1, api.OK}, {api.MaxBytes, 0, api.ErrLong},
		{0, api.MaxBytes, api.ErrLong}, {0, 5 * api.MaxBytes, api.ErrLong},
	} {
		o := full(t, c.has)
		o.Text(strings.Repeat("x", c.text))
		b, e := o.End()
		if e != c.want || e == api.OK && len(b) > api.MaxBytes || e != api.OK && len(b) != 0 {
			t.Errorf("%d bytes, and a text of %d: %d bytes, %v", c.has, c.text, len(b), e)
		}
	}
	o := full(t, api.MaxBytes-1)
	o.Num(64) // two bytes
	if _, e := o.End(); e != api.ErrLong {
		t.Error("half a number beyond:", e)
	}
}

func TestInNum(t *testing.T) {
	for v, s := range numbers() {
		i := codec.NewIn([]byte(s + "\x05"))
		if v == math.MinInt64 {
			i.Num(math.MaxInt64) // its opposite is no number of 64 bits
			bad(t, v, i)
			continue
		}
		if got := i.Num(max(v, -v)); got != v {
			t.Errorf("Num of %x: %d, want %d", s, got, v)
		}
		left(t, v, i, 1)
		i = codec.NewIn([]byte(s))
		if got := i.Num(math.MaxInt64); got != v {
			t.Errorf("Num of %x: %d, want %d", s, got, v)
		}
		left(t, v, i, 0)
	}
}

func TestInNumBeyond(t *testing.T) {
	for _, c := range []struct{ v, most int64 }{
		{150, 149}, {-150, 149}, {1, 0}, {-1, 0}, {64, 63}, {-64, 63},
		{math.MaxInt64, math.MaxInt64 - 1}, {-math.MaxInt64, math.MaxInt64 - 1},
		{math.MinInt64, math.MaxInt64}, {math.MinInt64, 0},
		{0, -1}, {1, -1}, {-1, -1}, {5, -5}, {-5, -5}, {0, math.MinInt64}, {math.MinInt64, math.MinInt64},
	} {
		i := codec.NewIn(append(num(t, c.v), 0, 0))
		if v := i.Num(c.most); v != 0 {
			t.Errorf("Num(%d) of %d: %d", c.most, c.v, v)
		}
		bad(t, c, i)
	}
}

func TestInNumNotAsAnOutWritesIt(t *testing.T) {
	for _, s := range []string{
		"",                                     // none
		"\x80",                                 // more is to come
		"\xff\xff\xff\xff\xff\xff\xff\xff\xff", // more is to come, long
		"\x80\x00",                             // one byte would do for 0
		"\x82\x00",                             // and for 1
		"\xac\x82\x00",                         // two would do
		"\xff\xff\xff\xff\xff\xff\xff\xff\xff\x00", // nine would do
		"\xff\xff\xff\xff\xff\xff\xff\xff\xff\x02", // 65 bits
		"\x80\x80\x80\x80\x80\x80\x80\x80\x80\x7f", // 70 bits
		"\x80\x80\x80\x80\x80\x80\x80\x80\x80\x80\x01",
		"\xff\xff\xff\xff\xff\xff\xff\xff\xff\x81\x00",
		"\x80\x80\x80\x80\x80\x80\x80\x80\x80\x80\x80\x80\x80\x80\x80\x80\x80\x80\x80\x02",
	} {
		i := codec.NewIn([]byte(s))
		if v := i.Num(math.MaxInt64); v != 0 {
			t.Errorf("Num of %x: %d", s, v)
		}
		bad(t, s, i)
	}
}

func TestInText(t *testing.T) {
	for _, s := range []string{"", "a", "ab", "é", "\x00\xff\x80", strings.Repeat("x", 63), strings.Repeat("x", 64), strings.Repeat("x", 9000)} {
		for _, most := range []int{len(s), len(s) + 1, math.MaxInt} {
			i := codec.NewIn(append(text(t, s), 'z'))
			if got := i.Text(most); got != s {
				t.Errorf("Text(%d) of %q: %q", most, s, got)
			}
			left(t, s, i, 1)
		}
	}
}

func TestInTextRefused(t *testing.T) {
	for _, c := range []struct {
		b    string
		most int
	}{
		{"\x04ab", 1}, {"\x02a", 0}, // beyond
		{"\x00", -1}, {"\x02a", -1}, {"\x00", math.MinInt}, {"\x01a", -1}, // none is of so few bytes
		{"", 9}, {"\x02", 9}, {"\x06ab", 9}, // it isn't there
		{"\x01ab", 9}, {"\x03ab", 9}, // fewer bytes than none
		{"\x84\x00ab", 9}, {"\x80", 9}, // not as few bytes as may be; no number
		{"\xfe\xff\xff\xff\xff\xff\xff\xff\xff\x01ab", math.MaxInt},
		{"\xff\xff\xff\xff\xff\xff\xff\xff\xff\x01ab", math.MaxInt},
	} {
		i := codec.NewIn([]byte(c.b))
		if s := i.Text(c.most); s != "" {
			t.Errorf("Text(%d) of %x: %q", c.most, c.b, s)
		}
		bad(t, c.b, i)
	}
}

func TestFail(t *testing.T) {
	i := codec.NewIn([]byte("\x02\x04ab"))
	if i.Num(1) != 1 {
		t.Error("ahead")
	}
	left(t, "ahead", i, 3)
	i.Fail()
	bad(t, "failed", i)
	i.Fail()
	bad(t, "failed twice", i)
	i = codec.NewIn(nil)
	left(t, "no bytes", i, 0)
	i.Fail()
	bad(t, "no bytes, failed", i)
}

// An In that was told what isn't there has nothing more, though more is there.
func TestBadFromThenOn(t *testing.T) {
	for what, ask := range map[string]func(i *codec.In){
		"a number beyond": func(i *codec.In) { i.Num(1) },
		"a text beyond":   func(i *codec.In) { i.Text(1) },
		"no most":         func(i *codec.In) { i.Num(-1) },
	} {
		i := codec.NewIn([]byte("\x04\x04ab\x02"))
		ask(i)
		bad(t, what, i)
	}
}

func TestNewInLeavesItsBytes(t *testing.T) {
	room := []byte("\x04ab\x02rest")
	was := bytes.Clone(room)
	i := codec.NewIn(room[:4])
	left(t, "of four", i, 4)
	clear(room[:2])
	if i.Text(2) != "ab" || i.Num(1) != 1 || !i.Done() {
		t.Error("its bytes changed later")
	}
	copy(room, was)
	i = codec.NewIn(room[:4])
	i.Text(9)
	i.Num(9)
	i.Fail()
	if !bytes.Equal(room, was) {
		t.Errorf("the bytes that were handed in, or their spare room, are changed: %q", room)
	}
}

func TestNilObjects(t *testing.T) {
	var o *codec.Out
	o.Num(1)
	o.Text("a")
	if b, e := o.End(); len(b) != 0 || e != api.ErrArg {
		t.Error("a nil Out:", b, e)
	}
	var i *codec.In
	i.Fail()
	if i.Num(9) != 0 || i.Text(9) != "" || i.Left() != 0 || i.Bad() || i.Done() {
		t.Error("a nil In")
	}
}

// Of all short lists of bytes, an In takes just what an Out writes.
func TestJustWhatAnOutWrites(t *testing.T) {
	taken := 0
	for k := range 1 << 16 {
		for _, b := range [][]byte{{byte(k)}, {byte(k), byte(k >> 8)}, {byte(k), 0x80, byte(k >> 8)}} {
			i := codec.NewIn(b)
			v := i.Num(math.MaxInt64)
			if !i.Done() {
				continue
			}
			taken++
			if again := num(t, v); !bytes.Equal(again, b) {
				t.Fatalf("%x is taken as %d, which an Out writes as %x", b, v, again)
			}
		}
	}
	// 128 numbers of one byte, each met 256 times; 128 * 127 of two; 128 * 127 of three with 80 between.
	if want := 128*256 + 2*128*127; taken != want {
		t.Errorf("%d are taken, want %d", taken, want)
	}
}

// Whatever an Out took, an In gives back in its order; of fewer bytes it doesn't.
func TestThereAndBack(t *testing.T) {
	var o codec.Out
	var vs []int64
	for shift := range 64 {
		v := int64(uint64(0x9e3779b97f4a7c15) >> shift)
		vs = append(vs, v, -v)
	}
	for k, v := range vs {
		o.Num(v)
		o.Text(strings.Repeat("t", k%40))
	}
	b := ended(t, &o)
	read := func(i *codec.In) bool {
		same := true
		for k, v := range vs {
			same = i.Num(math.MaxInt64) == v && i.Text(39) == strings.Repeat("t", k%40) && same
		}
		return same && i.Done()
	}
	if !read(codec.NewIn(b)) {
		t.Error("not as it was taken")
	}
	for n := range b {
		if i := codec.NewIn(b[:n]); read(i) || !i.Bad() {
			t.Errorf("of %d bytes of %d it is the same", n, len(b))
		}
	}
}
