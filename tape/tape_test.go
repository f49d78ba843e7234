package tape_test

import (
	"bytes"
	"math"
	"strings"
	"testing"

	"tributary/api"
	"tributary/tape"
)

// made makes a tape of that capacity, on which safe is safe, and wait waits.
func made(t *testing.T, capacity int, safe, wait string) *tape.Tape {
	t.Helper()
	p, e := tape.New(capacity)
	if e != api.OK {
		t.Fatal("New:", e)
	}
	if p.Append([]byte(safe)) != api.OK || p.Sync() != api.OK || p.Append([]byte(wait)) != api.OK {
		t.Fatal("it doesn't take", safe, wait)
	}
	return p
}

// has asks a tape that has its power for all that it tells.
func has(t *testing.T, what any, p *tape.Tape, safe, wait string) {
	t.Helper()
	b, e := p.Read()
	if e != api.OK || string(b) != safe+wait || p.Safe() != len(safe) || p.Len() != len(safe)+len(wait) || p.Lost() {
		t.Errorf("%v: %q, %v, safe %d, len %d, lost %v; want %q and %q", what, b, e, p.Safe(), p.Len(), p.Lost(), safe, wait)
	}
}

// gone asks a tape whose power is gone for all that it answers.
func gone(t *testing.T, what any, p *tape.Tape, safe, length int) {
	t.Helper()
	for range 2 {
		b, e := p.Read()
		if e != api.ErrLost || len(b) != 0 || !p.Lost() || p.Safe() != safe || p.Len() != length {
			t.Errorf("%v: %q, %v, lost %v, safe %d, len %d; want %d and %d", what, b, e, p.Lost(), p.Safe(), p.Len(), safe, length)
		}
		big := make([]byte, api.MaxTape+1)
		for i, e := range []api.Errno{
			p.Append(nil), p.Append([]byte("a")), p.Append(big), p.Sync(), p.Replace(nil), p.Replace([]byte("a")), p.Replace(big),
			p.Fuse(0), p.Fuse(1), p.Fuse(-1),
		} {
			if e != api.ErrLost {
				t.Errorf("%v: %d answers %v", what, i, e)
			}
		}
	}
}

func TestNew(t *testing.T) {
	for _, n := range []int{-1, math.MinInt, api.MaxTape + 1, math.MaxInt} {
		if p, e := tape.New(n); p != nil || e != api.ErrArg {
			t.Errorf("New(%d): %v, %v", n, p, e)
		}
	}
	for _, n := range []int{0, 1, 60000, api.MaxTape - 1, api.MaxTape} {
		p, e := tape.New(n)
		if e != api.OK {
			t.Fatal(n, e)
		}
		has(t, n, p, "", "")
		full := strings.Repeat("z", n)
		if p.Append([]byte(full+"z")) != api.ErrFull || p.Replace([]byte(full+"z")) != api.ErrFull {
			t.Error(n, "it takes more than its capacity")
		}
		has(t, n, p, "", "")
		if p.Append([]byte(full)) != api.OK || p.Append([]byte("a")) != api.ErrFull || p.Append(nil) != api.OK {
			t.Error(n, "it doesn't take its capacity alone")
		}
		has(t, n, p, "", full)
		if p.Replace([]byte(full)) != api.OK {
			t.Error(n, "it isn't replaced by as much as its capacity")
		}
		has(t, n, p, full, "")
	}
}

func TestTapesAreApart(t *testing.T) {
	p, q := made(t, 9, "a", "b"), made(t, 9, "c", "")
	if q.Fuse(0) != api.OK || q.Sync() != api.ErrLost {
		t.Error("fuse")
	}
	has(t, "the other one", p, "a", "b")
}

func TestAppendSyncReplace(t *testing.T) {
	p := made(t, 6, "ab", "")
	steps := []struct {
		do         func() api.Errno
		e          api.Errno
		safe, wait string
	}{
		{func() api.Errno { return p.Append([]byte("c")) }, api.OK, "ab", "c"},
		{func() api.Errno { return p.Append([]byte("de")) }, api.OK, "ab", "cde"},
		{func() api.Errno { return p.Append([]byte("fg")) }, api.ErrFull, "ab", "cde"},
		{func() api.Errno { return p.Append(nil) }, api.OK, "ab", "cde"},
		{p.Sync, api.OK, "abcde", ""},
		{p.Sync, api.OK, "abcde", ""},
		{func() api.Errno { return p.Append([]byte("fg")) }, api.ErrFull, "abcde", ""},
		{func() api.Errno { return p.Append([]byte("f")) }, api.OK, "abcde", "f"},
		{func() api.Errno { return p.Append([]byte("g")) }, api.ErrFull, "abcde", "f"},
		{func() api.Errno { return p.Replace([]byte("1234567")) }, api.ErrFull, "abcde", "f"},
		{func() api.Errno { return p.Replace([]byte("123456")) }, api.OK, "123456", ""},
		{func() api.Errno { return p.Replace([]byte("12")) }, api.OK, "12", ""},
		{func() api.Errno { return p.Append([]byte("3")) }, api.OK, "12", "3"},
		{func() api.Errno { return p.Replace(nil) }, api.OK, "", ""},
		{p.Sync, api.OK, "", ""},
		{func() api.Errno { return p.Append([]byte{0, 0xff, '\n'}) }, api.OK, "", "\x00\xff\n"},
		{p.Sync, api.OK, "\x00\xff\n", ""},
	}
	for i, s := range steps {
		if e := s.do(); e != s.e {
			t.Errorf("%d: %v, want %v", i, e, s.e)
		}
		has(t, i, p, s.safe, s.wait)
	}
}

func TestRestart(t *testing.T) {
	const safe, wait = "ab", "cde"
	stay := map[int]int{
		0: 0, 1: 1, 2: 2, 3: 3, 4: 0, 5: 1, 7: 3, 8: 0, 4001: 1,
		-1: 3, -2: 2, -3: 1, -4: 0, -5: 3, -8: 0, -4001: 3,
		math.MaxInt: 3, math.MaxInt - 1: 2, math.MinInt: 0, math.MinInt + 1: 1,
	}
	for keep, n := range stay {
		for _, spoil := range []byte{0, 1, 0x80, 0xff} {
			p := made(t, 5, safe, wait)
			p.Restart(keep, spoil)
			want := []byte(safe + wait[:n])
			if n > 0 {
				want[len(want)-1] ^= spoil
			}
			has(t, [2]int{keep, int(spoil)}, p, string(want), "")
		}
	}
}

func TestRestartOfOneThatWaits(t *testing.T) {
	p := made(t, 5, "", "a")
	p.Restart(1, 0)
	has(t, "the chapter's", p, "a", "")
	p = made(t, 5, "", "ab")
	p.Restart(1, 0)
	has(t, "a byte of it", p, "a", "")
	p.Restart(1, 3)
	has(t, "none waits", p, "a", "")
	p.Restart(math.MinInt, 0xff)
	has(t, "none waits, and keep is below 0", p, "a", "")
}

func TestRestartOfNone(t *testing.T) {
	p := made(t, 0, "", "")
	for _, keep := range []int{0, 1, -1, math.MaxInt, math.MinInt} {
		p.Restart(keep, 7)
		has(t, keep, p, "", "")
	}
}

func TestRestartMakesRoom(t *testing.T) {
	p := made(t, 4, "ab", "cd")
	p.Restart(0, 0)
	if p.Append([]byte("xyz")) != api.ErrFull || p.Append([]byte("xy")) != api.OK {
		t.Error("room")
	}
	has(t, "behind it", p, "ab", "xy")
}

func TestRestartIsByTheSafeOnesOfNow(t *testing.T) {
	p := made(t, 9, "ab", "cd")
	p.Restart(1, 0)
	if p.Append([]byte("ef")) != api.OK {
		t.Error("append")
	}
	has(t, "what stayed is safe", p, "abc", "ef")
	p.Restart(3, 0xff)
	has(t, "and stays so", p, "abc", "")
}

// acts are what a fuse counts, upon "a" that is safe and "b" that waits, and
// what there is where it is done, and where the power goes at it.
var acts = []struct {
	name               string
	do                 func(p *tape.Tape) api.Errno
	safe, wait         string
	lostSafe, lostWait string
}{
	{"append", func(p *tape.Tape) api.Errno { return p.Append([]byte("c")) }, "a", "bc", "a", "bc"},
	{"append of nothing", func(p *tape.Tape) api.Errno { return p.Append(nil) }, "a", "b", "a", "b"},
	{"sync", func(p *tape.Tape) api.Errno { return p.Sync() }, "ab", "", "a", "b"},
	{"replace", func(p *tape.Tape) api.Errno { return p.Replace([]byte("cd")) }, "cd", "", "a", "b"},
	{"replace by nothing", func(p *tape.Tape) api.Errno { return p.Replace(nil) }, "", "", "a", "b"},
}

func TestFuseOfNone(t *testing.T) {
	for _, a := range acts {
		p := made(t, 9, "a", "b")
		if e := p.Fuse(0); e != api.OK {
			t.Error(a.name, e)
		}
		has(t, a.name, p, "a", "b")
		if e := a.do(p); e != api.ErrLost {
			t.Error(a.name, e)
		}
		gone(t, a.name, p, len(a.lostSafe), len(a.lostSafe+a.lostWait))
		p.Restart(len(a.lostWait), 0)
		has(t, a.name, p, a.lostSafe+a.lostWait, "")
		if e := a.do(p); e != api.OK {
			t.Error(a.name, "there is a fuse still:", e)
		}
	}
}

func TestFuseOfSome(t *testing.T) {
	for _, ahead := range acts {
		for _, a := range acts {
			for n := range 4 {
				p := made(t, 9, "a", "b")
				if e := p.Fuse(n); e != api.OK {
					t.Error(n, e)
				}
				for range n {
					if e := ahead.do(p); e != api.OK || p.Lost() {
						t.Error(n, ahead.name, e)
					}
				}
				if e := a.do(p); e != api.ErrLost || !p.Lost() {
					t.Error(n, ahead.name, a.name, e)
				}
			}
		}
	}
}

func TestFuseOfMany(t *testing.T) {
	p := made(t, 9, "a", "b")
	if e := p.Fuse(math.MaxInt); e != api.OK {
		t.Error(e)
	}
	for range 1000 {
		if e := p.Sync(); e != api.OK {
			t.Fatal(e)
		}
	}
	has(t, "a long one", p, "ab", "")
}

func TestFuseDoesntCountTheRefused(t *testing.T) {
	p := made(t, 3, "a", "b")
	if p.Fuse(0) != api.OK {
		t.Error("fuse")
	}
	for range 3 {
		if p.Append([]byte("cd")) != api.ErrFull || p.Replace([]byte("cdef")) != api.ErrFull || p.Lost() {
			t.Error("it is refused, and the power goes")
		}
	}
	has(t, "refused", p, "a", "b")
	if p.Append([]byte("c")) != api.ErrLost {
		t.Error("the fuse is gone")
	}
	gone(t, "the first that isn't refused", p, 1, 3)
}

func TestFuseDoesntCountTheRest(t *testing.T) {
	p := made(t, 9, "a", "b")
	if p.Fuse(1) != api.OK {
		t.Error("fuse")
	}
	for range 3 {
		has(t, "asked", p, "a", "b")
		has(t, "cloned", p.Clone(), "a", "b")
	}
	if p.Sync() != api.OK || p.Sync() != api.ErrLost {
		t.Error("the second one")
	}
}

func TestFuseAnew(t *testing.T) {
	for _, first := range []int{0, 1, 5} {
		p := made(t, 9, "a", "b")
		if p.Fuse(first) != api.OK || p.Fuse(-1) != api.ErrArg || p.Fuse(math.MinInt) != api.ErrArg {
			t.Error("fuse")
		}
		q := p.Clone()
		for range first {
			if e := q.Sync(); e != api.OK {
				t.Error(first, e)
			}
		}
		if e := q.Sync(); e != api.ErrLost {
			t.Error(first, "a fuse that is refused takes the place of the one before it:", e)
		}
		if p.Fuse(2) != api.OK || p.Sync() != api.OK || p.Sync() != api.OK || p.Sync() != api.ErrLost {
			t.Error(first, "it isn't the last one that holds")
		}
	}
	p := made(t, 9, "a", "b")
	if p.Fuse(-1) != api.ErrArg || p.Sync() != api.OK || p.Lost() {
		t.Error("a fuse that is refused is none")
	}
}

func TestRestartTakesTheFuse(t *testing.T) {
	for n := range 3 {
		p := made(t, 9, "a", "bcd")
		if p.Fuse(n) != api.OK {
			t.Error("fuse")
		}
		p.Restart(2, 1)
		has(t, n, p, "abb", "")
		for range 5 {
			if e := p.Sync(); e != api.OK {
				t.Error(n, e)
			}
		}
	}
}

// With the power gone at an Append its bytes wait, and so a part of them may
// stay, the last one spoilt.
func TestPartOfAnAppendStays(t *testing.T) {
	for keep, want := range []string{"ab", "abc", "abcd", "abcdf", "ab"} {
		p := made(t, 5, "ab", "")
		if p.Fuse(0) != api.OK || p.Append([]byte("cde")) != api.ErrLost {
			t.Error("append")
		}
		spoil := byte(0)
		if keep == 3 {
			spoil = 'e' ^ 'f'
		}
		p.Restart(keep, spoil)
		has(t, keep, p, want, "")
	}
}

func TestClone(t *testing.T) {
	p := made(t, 5, "ab", "c")
	q := p.Clone()
	has(t, "the clone", q, "ab", "c")
	if q.Append([]byte("def")) != api.ErrFull || q.Append([]byte("xy")) != api.OK || p.Append([]byte("de")) != api.OK {
		t.Error("append")
	}
	has(t, "what was appended to the clone", q, "ab", "cxy")
	has(t, "what was appended to the first", p, "ab", "cde")
	q.Restart(1, 0xff)
	has(t, "the restarted clone", q, "ab\x9c", "")
	has(t, "the first", p, "ab", "cde")
	if p.Sync() != api.OK || q.Replace([]byte("q")) != api.OK || p.Replace([]byte("p")) != api.OK {
		t.Error("replace")
	}
	has(t, "the clone", q, "q", "")
	has(t, "the first", p, "p", "")
}

func TestCloneHasTheFuse(t *testing.T) {
	p := made(t, 5, "a", "b")
	if p.Fuse(2) != api.OK || p.Sync() != api.OK {
		t.Error("fuse")
	}
	q := p.Clone()
	for _, x := range []*tape.Tape{q, p} {
		if x.Sync() != api.OK || x.Append([]byte("c")) != api.ErrLost {
			t.Error("the fuse is another one")
		}
	}
	gone(t, "a clone of one that is out", p.Clone(), 2, 3)
	q.Restart(0, 0)
	has(t, "the clone is restarted", q, "ab", "")
	gone(t, "and the first isn't", p, 2, 3)
}

func TestNil(t *testing.T) {
	var p *tape.Tape
	b, e := p.Read()
	for i, e := range []api.Errno{p.Append(nil), p.Append([]byte("a")), p.Sync(), p.Replace(nil), e, p.Fuse(0), p.Fuse(-1)} {
		if e != api.ErrArg {
			t.Error(i, e)
		}
	}
	p.Restart(1, 1)
	p.Restart(math.MinInt, 0)
	if len(b) != 0 || p.Safe() != 0 || p.Len() != 0 || p.Lost() || p.Clone() != nil {
		t.Error("nil", b, p.Safe(), p.Len(), p.Lost())
	}
}

func TestWhatIsHandedInIsLeft(t *testing.T) {
	for i, c := range []struct {
		do         func(p *tape.Tape, b []byte) api.Errno
		safe, wait string
	}{
		{func(p *tape.Tape, b []byte) api.Errno { return p.Append(b) }, "", "abc"},
		{func(p *tape.Tape, b []byte) api.Errno { return p.Replace(b) }, "abc", ""},
	} {
		p := made(t, 99, "", "")
		room := []byte("abcXYZ")
		if c.do(p, room[:3]) != api.OK || p.Append([]byte("d")) != api.OK || string(room) != "abcXYZ" {
			t.Errorf("%d: %q", i, room)
		}
		copy(room, "------")
		has(t, i, p, c.safe, c.wait+"d")
		p.Restart(math.MaxInt, 0xff)
		if string(room) != "------" {
			t.Errorf("%d: %q", i, room)
		}
	}
}

func TestAnswersStandAlone(t *testing.T) {
	p := made(t, 99, "abc", "de")
	b, _ := p.Read()
	clear(b[:cap(b)])
	has(t, "behind a change of what was read", p, "abc", "de")
	b, _ = p.Read()
	if p.Append([]byte("fgh")) != api.OK {
		t.Error("append")
	}
	p.Restart(1, 0xff)
	if p.Replace([]byte("12")) != api.OK || string(b) != "abcde" {
		t.Errorf("what was read changes with the tape: %q", b)
	}
	_ = append(b[:2], "xyz"...)
	has(t, "at the end", p, "12", "")
}

// model is a tape as the chapter tells it, by texts, and by the number of each
// thing that is done.
type model struct {
	capacity, done, fuse int // fuse is the number at which the power goes; none, if below 0
	safe, wait           string
	lost                 bool
}

func (m *model) step(do byte) api.Errno {
	if do >= 'r' {
		n := []int{0, 1, -1, 2}[do-'r'] % (len(m.wait) + 1)
		if n < 0 {
			n += len(m.wait) + 1
		}
		m.safe, m.wait, m.fuse, m.lost = m.safe+m.wait[:n], "", -1, false
		return api.OK
	}
	if m.lost {
		return api.ErrLost
	}
	switch {
	case do == '0' || do == '1':
		m.fuse = m.done + int(do-'0')
		return api.OK
	case do == 'A' && len(m.safe+m.wait)+2 > m.capacity:
		return api.ErrFull
	}
	m.done++
	m.lost = m.fuse == m.done-1
	switch {
	case do == 'A':
		m.wait += "vw"
	case m.lost:
	case do == 'S':
		m.safe, m.wait = m.safe+m.wait, ""
	case do == 'R':
		m.safe, m.wait = "xyz", ""
	}
	if m.lost {
		return api.ErrLost
	}
	return api.OK
}

func step(p *tape.Tape, do byte) api.Errno {
	switch do {
	case 'A':
		return p.Append([]byte("vw"))
	case 'S':
		return p.Sync()
	case 'R':
		return p.Replace([]byte("xyz"))
	case '0', '1':
		return p.Fuse(int(do - '0'))
	}
	p.Restart([]int{0, 1, -1, 2}[do-'r'], 0)
	return api.OK
}

// Whatever is done, up to five things in a row: the tape is as the model.
func TestAllRows(t *testing.T) {
	var walk func(row string, p *tape.Tape, m model)
	walk = func(row string, p *tape.Tape, m model) {
		if m.lost {
			q := p.Clone()
			if b, e := q.Read(); e != api.ErrLost || b != nil || !q.Lost() || q.Safe() != len(m.safe) || q.Len() != len(m.safe+m.wait) {
				t.Fatal(row, b, e)
			}
			q.Restart(len(m.wait), 0)
			has(t, row, q, m.safe+m.wait, "")
		} else {
			has(t, row, p, m.safe, m.wait)
		}
		if len(row) == 5 || t.Failed() {
			return
		}
		for _, do := range []byte("ASR01rstu") {
			q, n := p.Clone(), m
			if e, want := step(q, do), n.step(do); e != want {
				t.Fatalf("%s%c: %v, want %v", row, do, e, want)
			}
			walk(row+string(do), q, n)
		}
	}
	walk("", made(t, 5, "a", ""), model{capacity: 5, fuse: -1, safe: "a"})
}

func TestMuch(t *testing.T) {
	p := made(t, api.MaxTape, "", "")
	piece := bytes.Repeat([]byte("0123456789abcdef"), 4)
	for range api.MaxTape / len(piece) {
		if e := p.Append(piece); e != api.OK {
			t.Fatal(e)
		}
	}
	if p.Append([]byte("a")) != api.ErrFull || p.Len() != api.MaxTape {
		t.Error("room")
	}
	p.Restart(api.MaxTape-1, 0)
	if p.Append([]byte("ab")) != api.ErrFull || p.Append([]byte("a")) != api.OK || p.Safe() != api.MaxTape-1 {
		t.Error("one less")
	}
}
